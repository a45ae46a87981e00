/- The document's reader of chunked bodies: any byte. -/
import Derived.Test.YtnlmjlfoeodleaaGreatDoorDTrailA
namespace Go.Proofs.YtnlmjlfoeodleaaGreatDoor
open Go.RowKit

theorem results_dk2 {fn : Func} {p u : Tmp} (h : fn.results = #[.cell p 35, .tmp u]) (tmps : Array Value) (w : World) (g : Nat) (t : TypeId) (cs : Array Value) (fr : Nat × Nat)
    (hp : tmps.getD p undef = .pointer (some ⟨g, 0, none⟩)) (hg : w.heap[g]? = some (.cells cs t fr)) (hs : cs.size = 10) : (results fn tmps).run Tryz.prog w = .ok (.tuple #[.agg cs, tmps.getD u undef]) w := by
  have hl := run_loadVar_row (P := Tryz.prog) w g t 35 cs fr _ hg Tryz.underlying35 rfl (by rw [dk_size, hs])
  rw [results_cell_tmp h, hp]
  simp [asAddr, Result.andThen, hl]
theorem arg_off {W U : World} {g : Nat} {q : Option Addr} {X : B} (h : ArgAt W q X) (hU : ∀ k, k ≠ g → U.heap[k]? = W.heap[k]?) (hz : ∀ k n, W.cell? ⟨g, k, none⟩ ≠ some (.int .u8 n)) : ArgAt U q X := by
  intro i y hi
  obtain ⟨g2, o, e, h1⟩ := h i y hi
  have hne : g2 ≠ g := fun e9 => by subst e9; exact hz _ _ h1
  refine ⟨g2, o, e, ?_⟩
  simp only [World.cell?] at h1 ⊢
  rw [hU _ hne]
  exact h1
theorem fat_off {W U : World} {g : Nat} {q : Option Addr} {X : List (B × B)} (h : FAt W q X) (hU : ∀ k, k ≠ g → U.heap[k]? = W.heap[k]?) (hz : ∀ k s, W.cell? ⟨g, k, none⟩ ≠ some (.string s)) : FAt U q X := by
  intro i y hi
  obtain ⟨g2, o, e, h1, h2⟩ := h i y hi
  have hne : g2 ≠ g := fun e9 => by subst e9; exact hz _ _ h1
  refine ⟨g2, o, e, ?_, ?_⟩
  · simp only [World.cell?] at h1 ⊢
    rw [hU _ hne]
    exact h1
  · simp only [World.cell?] at h2 ⊢
    rw [hU _ hne]
    exact h2
theorem dk_put {w : World} {g : Nat} {d : DK} {lp tp : Option Addr} {lc tc : Nat} {T : TypeId} (h : DkAt w d lp lc tp tc) (hz : w.heap[g]? = some (.cells #[.int .i64 0, .int .i64 0, .int .i64 0, .int .i64 0, .int .i64 0, .int .i64 0, .int .i64 0, .slice none 0 0, .int .i64 0, .slice none 0 0] T (0, 0))) (c0 c1 c2 c3 c4 c5 c6 c7 c8 c9 : Value) : DkAt ((((((((((w.setCell ⟨g, 0, none⟩ c0).setCell ⟨g, 1, none⟩ c1).setCell ⟨g, 2, none⟩ c2).setCell ⟨g, 3, none⟩ c3).setCell ⟨g, 4, none⟩ c4).setCell ⟨g, 5, none⟩ c5).setCell ⟨g, 6, none⟩ c6).setCell ⟨g, 7, none⟩ c7).setCell ⟨g, 8, none⟩ c8).setCell ⟨g, 9, none⟩ c9) d lp lc tp tc := by
  have hU : ∀ k, k ≠ g → ((((((((((w.setCell ⟨g, 0, none⟩ c0).setCell ⟨g, 1, none⟩ c1).setCell ⟨g, 2, none⟩ c2).setCell ⟨g, 3, none⟩ c3).setCell ⟨g, 4, none⟩ c4).setCell ⟨g, 5, none⟩ c5).setCell ⟨g, 6, none⟩ c6).setCell ⟨g, 7, none⟩ c7).setCell ⟨g, 8, none⟩ c8).setCell ⟨g, 9, none⟩ c9).heap[k]? = w.heap[k]? := by
    intro k hk
    iterate 10 rw [Below.heap_setCell _ _ _ _ (fun e => hk e)]
  refine ⟨arg_off h.line hU (fun k n e => ?_), h.lcap, h.lnil, fat_off h.tr hU (fun k s e => ?_), h.tnil, h.g.next (by simp only [size_set, Nat.le_refl])⟩
  · simp only [World.cell?, hz] at e
    simp at e
    have h9 := List.mem_of_getElem? e
    simp at h9
  · simp only [World.cell?, hz] at e
    simp at e
    have h9 := List.mem_of_getElem? e
    simp at h9
/-- What step must answer. -/
def AnsS (d' : DK) (b : Bool) (w : World) (e : Ending) (w' : World) : Prop := ∃ lp ln lc tp tn tc, e = .returned (.tuple #[.agg (dkC d' (.slice lp ln lc) (.slice tp tn tc)), .bool b]) ∧ d'.line.length = ln ∧ d'.tr.length = tn ∧ DkAt w' d' lp lc tp tc ∧ Below w.heap.size w w'
set_option maxRecDepth 20000 in
set_option maxHeartbeats 8000000 in
theorem st_3a (d : DK) (lp tp : Option Addr) (ln lc tn tc : Nat) (c : UInt8) (w : World) (hl : d.line.length = ln) (ht : d.tr.length = tn) (hA : DkAt w d lp lc tp tc) (hs : d.st = 3) (hz : d.size = 1) (hb : d.size ≤ 1099511627776) (hn : d.len ≤ 1099511627776)  : Calls Tryz.prog 71 #[.agg (dkC d (.slice lp ln lc) (.slice tp tn tc)), byteV c] w (AnsS { d with size := d.size - 1, len := d.len + 1, st := 4 } true w) := by
  have HA := hid hA
  have HL := hid hl
  have HT := hid ht
  clear hA hl ht
  obtain ⟨most, len, st, e0, digits, size, more, line, bytes, tr, gh⟩ := d
  dsimp only at *
  unfold AnsS dkC byteV
  dsimp only
  subst hs
  subst hz
  push_cast
  go_enter Tryz.func71, Tryz.ntmps71
  go_wp2
  refine bodyPost_ret (results_dk2 rfl _ _ _ 35 _ (0, 0) rfl (two_new _ _ _) rfl) rfl ?_
  exact ⟨lp, ln, lc, tp, tn, tc, rfl, HL.out, HT.out, ⟨HA.out.line.next (below_twoD _ _ _), HA.out.lcap, HA.out.lnil, HA.out.tr.next (below_twoD _ _ _), HA.out.tnil, HA.out.g.next (below_twoD _ _ _).size⟩, below_twoD _ _ _⟩
set_option maxRecDepth 20000 in
set_option maxHeartbeats 8000000 in
theorem st_3b (d : DK) (lp tp : Option Addr) (ln lc tn tc : Nat) (c : UInt8) (w : World) (hl : d.line.length = ln) (ht : d.tr.length = tn) (hA : DkAt w d lp lc tp tc) (hs : d.st = 3) (hz : 1 < d.size) (hb : d.size ≤ 1099511627776) (hn : d.len ≤ 1099511627776)  : Calls Tryz.prog 71 #[.agg (dkC d (.slice lp ln lc) (.slice tp tn tc)), byteV c] w (AnsS { d with size := d.size - 1, len := d.len + 1, st := 3 } true w) := by
  have HA := hid hA
  have HL := hid hl
  have HT := hid ht
  clear hA hl ht
  obtain ⟨most, len, st, e0, digits, size, more, line, bytes, tr, gh⟩ := d
  dsimp only at *
  unfold AnsS dkC byteV
  dsimp only
  subst hs
  obtain ⟨s1, rfl⟩ : ∃ s1, size = s1 + 1 := ⟨size - 1, by omega⟩
  rw [Nat.add_sub_cancel]
  have hz2 : ((s1 : Int) == 0) = false := i_ne (b := 0) (by omega)
  have hw1 : wrap64 ((s1 : Int) + 1 - 1) = (s1 : Int) := by unfold wrap64; omega
  have ha1 : (s1 : Int) + 1 - 1 = (s1 : Int) := by omega
  push_cast
  go_enter Tryz.func71, Tryz.ntmps71
  go_wp2
  refine bodyPost_ret (results_dk2 rfl _ _ _ 35 _ (0, 0) rfl (two_new _ _ _) rfl) rfl ?_
  exact ⟨lp, ln, lc, tp, tn, tc, rfl, HL.out, HT.out, ⟨HA.out.line.next (below_twoD _ _ _), HA.out.lcap, HA.out.lnil, HA.out.tr.next (below_twoD _ _ _), HA.out.tnil, HA.out.g.next (below_twoD _ _ _).size⟩, below_twoD _ _ _⟩
set_option maxRecDepth 20000 in
set_option maxHeartbeats 8000000 in
theorem st_4a (d : DK) (lp tp : Option Addr) (ln lc tn tc : Nat) (c : UInt8) (w : World) (hl : d.line.length = ln) (ht : d.tr.length = tn) (hA : DkAt w d lp lc tp tc) (hs : d.st = 4) (hc : c = 13) : Calls Tryz.prog 71 #[.agg (dkC d (.slice lp ln lc) (.slice tp tn tc)), byteV c] w (AnsS { d with st := 5 } false w) := by
  have HA := hid hA
  have HL := hid hl
  have HT := hid ht
  clear hA hl ht
  obtain ⟨most, len, st, e0, digits, size, more, line, bytes, tr, gh⟩ := d
  dsimp only at *
  unfold AnsS dkC byteV
  dsimp only
  subst hs
  have hcz : (c.toNat : Int) = 13 := by rw [hc]; rfl
  rw [hcz]
  clear hcz hc
  push_cast
  go_enter Tryz.func71, Tryz.ntmps71
  go_wp2
  refine bodyPost_ret (results_dk2 rfl _ _ _ 35 _ (0, 0) rfl (two_new _ _ _) rfl) rfl ?_
  exact ⟨lp, ln, lc, tp, tn, tc, rfl, HL.out, HT.out, ⟨HA.out.line.next (below_twoD _ _ _), HA.out.lcap, HA.out.lnil, HA.out.tr.next (below_twoD _ _ _), HA.out.tnil, HA.out.g.next (below_twoD _ _ _).size⟩, below_twoD _ _ _⟩
set_option maxRecDepth 20000 in
set_option maxHeartbeats 8000000 in
theorem st_4b (d : DK) (lp tp : Option Addr) (ln lc tn tc : Nat) (c : UInt8) (w : World) (hl : d.line.length = ln) (ht : d.tr.length = tn) (hA : DkAt w d lp lc tp tc) (hs : d.st = 4) (hc : c ≠ 13) : Calls Tryz.prog 71 #[.agg (dkC d (.slice lp ln lc) (.slice tp tn tc)), byteV c] w (AnsS (failD d 31) false w) := by
  have HA := hid hA
  have HL := hid hl
  have HT := hid ht
  clear hA hl ht
  obtain ⟨most, len, st, e0, digits, size, more, line, bytes, tr, gh⟩ := d
  dsimp only at *
  unfold AnsS dkC byteV
  unfold failD
  dsimp only
  subst hs
  have f13 : ((c.toNat : Int) == 13) = false := c_ne (toNat_ne hc)
  have g13 : ¬ (c.toNat : Int) = 13 := by simp at f13; omega
  have m13 : ((c.toNat : Int) != 13) = true := by simpa using g13
  clear hc
  push_cast
  have HF := hid (fun W : World => fail_any ⟨most, len, 4, e0, digits, size, more, line, bytes, tr, gh⟩ lp tp ln lc tn tc 31 W)
  unfold dkC failD at HF
  dsimp only at HF
  push_cast at HF
  go_enter Tryz.func71, Tryz.ntmps71
  go_wp2_with (go_at_call 112; (with_reducible refine (HF.out _).mono ?_); rintro e w2 ⟨rfl, hb2⟩; have hz := (hb2.block (w.heap.size + 1) (by simp)).trans (two_new w _ _); have HB2 := hid (below_out (below_twoD w _ _) hb2); have HZ := hid hz; obtain ⟨k0, k1, k2, k3, k4, k5, k6, k7, k8, k9, kz⟩ := cells10 hz; have z0 := kz 0; have z1 := kz 1; have z2 := kz 2; have z3 := kz 3; have z4 := kz 4; have z5 := kz 5; have z6 := kz 6; have z7 := kz 7; have z8 := kz 8; have z9 := kz 9; clear hb2 hz kz)
  refine bodyPost_ret (results_dk2 rfl _ _ _ 35 _ (0, 0) rfl (put10 HZ.out _ _ _ _ _ _ _ _ _ _) rfl) rfl ?_
  have hB := below10 HB2.out (Nat.le_succ w.heap.size)
  exact ⟨lp, ln, lc, tp, tn, tc, rfl, HL.out, HT.out, ⟨HA.out.line.next (hB _ _ _ _ _ _ _ _ _ _), HA.out.lcap, HA.out.lnil, HA.out.tr.next (hB _ _ _ _ _ _ _ _ _ _), HA.out.tnil, HA.out.g.next (hB _ _ _ _ _ _ _ _ _ _).size⟩, hB _ _ _ _ _ _ _ _ _ _⟩
set_option maxRecDepth 20000 in
set_option maxHeartbeats 8000000 in
theorem st_5a (d : DK) (lp tp : Option Addr) (ln lc tn tc : Nat) (c : UInt8) (w : World) (hl : d.line.length = ln) (ht : d.tr.length = tn) (hA : DkAt w d lp lc tp tc) (hs : d.st = 5) (hc : c = 10) : Calls Tryz.prog 71 #[.agg (dkC d (.slice lp ln lc) (.slice tp tn tc)), byteV c] w (AnsS { d with st := 0, digits := 0, size := 0, more := 0 } false w) := by
  have HA := hid hA
  have HL := hid hl
  have HT := hid ht
  clear hA hl ht
  obtain ⟨most, len, st, e0, digits, size, more, line, bytes, tr, gh⟩ := d
  dsimp only at *
  unfold AnsS dkC byteV
  dsimp only
  subst hs
  have hcz : (c.toNat : Int) = 10 := by rw [hc]; rfl
  rw [hcz]
  clear hcz hc
  push_cast
  go_enter Tryz.func71, Tryz.ntmps71
  go_wp2
  refine bodyPost_ret (results_dk2 rfl _ _ _ 35 _ (0, 0) rfl (two_new _ _ _) rfl) rfl ?_
  exact ⟨lp, ln, lc, tp, tn, tc, rfl, HL.out, HT.out, ⟨HA.out.line.next (below_twoD _ _ _), HA.out.lcap, HA.out.lnil, HA.out.tr.next (below_twoD _ _ _), HA.out.tnil, HA.out.g.next (below_twoD _ _ _).size⟩, below_twoD _ _ _⟩
set_option maxRecDepth 20000 in
set_option maxHeartbeats 8000000 in
theorem st_5b (d : DK) (lp tp : Option Addr) (ln lc tn tc : Nat) (c : UInt8) (w : World) (hl : d.line.length = ln) (ht : d.tr.length = tn) (hA : DkAt w d lp lc tp tc) (hs : d.st = 5) (hc : c ≠ 10) : Calls Tryz.prog 71 #[.agg (dkC d (.slice lp ln lc) (.slice tp tn tc)), byteV c] w (AnsS (failD d 31) false w) := by
  have HA := hid hA
  have HL := hid hl
  have HT := hid ht
  clear hA hl ht
  obtain ⟨most, len, st, e0, digits, size, more, line, bytes, tr, gh⟩ := d
  dsimp only at *
  unfold AnsS dkC byteV
  unfold failD
  dsimp only
  subst hs
  have f10 : ((c.toNat : Int) == 10) = false := c_ne (toNat_ne hc)
  have g10 : ¬ (c.toNat : Int) = 10 := by simp at f10; omega
  have m10 : ((c.toNat : Int) != 10) = true := by simpa using g10
  clear hc
  push_cast
  have HF := hid (fun W : World => fail_any ⟨most, len, 5, e0, digits, size, more, line, bytes, tr, gh⟩ lp tp ln lc tn tc 31 W)
  unfold dkC failD at HF
  dsimp only at HF
  push_cast at HF
  go_enter Tryz.func71, Tryz.ntmps71
  go_wp2_with (go_at_call 112; (with_reducible refine (HF.out _).mono ?_); rintro e w2 ⟨rfl, hb2⟩; have hz := (hb2.block (w.heap.size + 1) (by simp)).trans (two_new w _ _); have HB2 := hid (below_out (below_twoD w _ _) hb2); have HZ := hid hz; obtain ⟨k0, k1, k2, k3, k4, k5, k6, k7, k8, k9, kz⟩ := cells10 hz; have z0 := kz 0; have z1 := kz 1; have z2 := kz 2; have z3 := kz 3; have z4 := kz 4; have z5 := kz 5; have z6 := kz 6; have z7 := kz 7; have z8 := kz 8; have z9 := kz 9; clear hb2 hz kz)
  refine bodyPost_ret (results_dk2 rfl _ _ _ 35 _ (0, 0) rfl (put10 HZ.out _ _ _ _ _ _ _ _ _ _) rfl) rfl ?_
  have hB := below10 HB2.out (Nat.le_succ w.heap.size)
  exact ⟨lp, ln, lc, tp, tn, tc, rfl, HL.out, HT.out, ⟨HA.out.line.next (hB _ _ _ _ _ _ _ _ _ _), HA.out.lcap, HA.out.lnil, HA.out.tr.next (hB _ _ _ _ _ _ _ _ _ _), HA.out.tnil, HA.out.g.next (hB _ _ _ _ _ _ _ _ _ _).size⟩, hB _ _ _ _ _ _ _ _ _ _⟩
theorem sizeD_line (d : DK) (c : UInt8) : (sizeD d c).line = d.line := by
  unfold sizeD failD
  (repeat' split) <;> rfl
theorem sizeD_gh (d : DK) (c : UInt8) : (sizeD d c).gh = d.gh := by
  unfold sizeD failD
  (repeat' split) <;> rfl
theorem sizeD_tr (d : DK) (c : UInt8) : (sizeD d c).tr = d.tr := by
  unfold sizeD failD
  (repeat' split) <;> rfl
set_option maxRecDepth 20000 in
set_option maxHeartbeats 8000000 in
theorem st_6 (d : DK) (lp tp : Option Addr) (ln lc tn tc : Nat) (c : UInt8) (w : World) (hl : d.line.length = ln) (ht : d.tr.length = tn) (hA : DkAt w d lp lc tp tc) (hs : d.st = 6) (hk : OkT d) : Calls Tryz.prog 71 #[.agg (dkC d (.slice lp ln lc) (.slice tp tn tc)), byteV c] w (AnsS (trailD d c) false w) := by
  have HF := hid (fun (W : World) (hW : Below w.heap.size w W) => trail_any d lp tp ln lc tn tc c W hk hl ht (hA.next hW))
  obtain ⟨D, hD⟩ : ∃ D, trailD d c = D := ⟨_, rfl⟩
  rw [hD] at HF ⊢
  clear hD hk
  clear hA hl ht
  obtain ⟨most, len, st, e0, digits, size, more, line, bytes, tr, gh⟩ := d
  dsimp only at *
  unfold dkC byteV at HF ⊢
  dsimp only at HF ⊢
  subst hs
  push_cast at HF ⊢
  go_enter Tryz.func71, Tryz.ntmps71
  go_wp2_with (go_at_call 113; (with_reducible refine (HF.out _ (below_twoD w _ _)).mono ?_); rintro e w2 ⟨lp2, ln2, lc2, tp2, tn2, tc2, rfl, hl2, ht2, hA2, hb2⟩; unfold dkC; have HR := hid (And.intro hl2 (And.intro ht2 hA2)); have hz := (hb2.block (w.heap.size + 1) (by simp)).trans (two_new w _ _); have HB2 := hid (below_out (below_twoD w _ _) hb2); have HZ := hid hz; obtain ⟨k0, k1, k2, k3, k4, k5, k6, k7, k8, k9, kz⟩ := cells10 hz; have z0 := kz 0; have z1 := kz 1; have z2 := kz 2; have z3 := kz 3; have z4 := kz 4; have z5 := kz 5; have z6 := kz 6; have z7 := kz 7; have z8 := kz 8; have z9 := kz 9; clear hb2 hz kz hl2 ht2 hA2)
  refine bodyPost_ret (results_dk2 rfl _ _ _ 35 _ (0, 0) rfl (put10 HZ.out _ _ _ _ _ _ _ _ _ _) rfl) rfl ?_
  exact ⟨lp2, ln2, lc2, tp2, tn2, tc2, rfl, HR.out.1, HR.out.2.1, dk_put HR.out.2.2 HZ.out _ _ _ _ _ _ _ _ _ _, below10 HB2.out (Nat.le_succ _) _ _ _ _ _ _ _ _ _ _⟩
set_option maxRecDepth 20000 in
set_option maxHeartbeats 8000000 in
theorem st_7 (d : DK) (lp tp : Option Addr) (ln lc tn tc : Nat) (c : UInt8) (w : World) (hl : d.line.length = ln) (ht : d.tr.length = tn) (hA : DkAt w d lp lc tp tc) (hs : d.st = 7) (hk : OkT d) : Calls Tryz.prog 71 #[.agg (dkC d (.slice lp ln lc) (.slice tp tn tc)), byteV c] w (AnsS (trailD d c) false w) := by
  have HF := hid (fun (W : World) (hW : Below w.heap.size w W) => trail_any d lp tp ln lc tn tc c W hk hl ht (hA.next hW))
  obtain ⟨D, hD⟩ : ∃ D, trailD d c = D := ⟨_, rfl⟩
  rw [hD] at HF ⊢
  clear hD hk
  clear hA hl ht
  obtain ⟨most, len, st, e0, digits, size, more, line, bytes, tr, gh⟩ := d
  dsimp only at *
  unfold dkC byteV at HF ⊢
  dsimp only at HF ⊢
  subst hs
  push_cast at HF ⊢
  go_enter Tryz.func71, Tryz.ntmps71
  go_wp2_with (go_at_call 113; (with_reducible refine (HF.out _ (below_twoD w _ _)).mono ?_); rintro e w2 ⟨lp2, ln2, lc2, tp2, tn2, tc2, rfl, hl2, ht2, hA2, hb2⟩; unfold dkC; have HR := hid (And.intro hl2 (And.intro ht2 hA2)); have hz := (hb2.block (w.heap.size + 1) (by simp)).trans (two_new w _ _); have HB2 := hid (below_out (below_twoD w _ _) hb2); have HZ := hid hz; obtain ⟨k0, k1, k2, k3, k4, k5, k6, k7, k8, k9, kz⟩ := cells10 hz; have z0 := kz 0; have z1 := kz 1; have z2 := kz 2; have z3 := kz 3; have z4 := kz 4; have z5 := kz 5; have z6 := kz 6; have z7 := kz 7; have z8 := kz 8; have z9 := kz 9; clear hb2 hz kz hl2 ht2 hA2)
  refine bodyPost_ret (results_dk2 rfl _ _ _ 35 _ (0, 0) rfl (put10 HZ.out _ _ _ _ _ _ _ _ _ _) rfl) rfl ?_
  exact ⟨lp2, ln2, lc2, tp2, tn2, tc2, rfl, HR.out.1, HR.out.2.1, dk_put HR.out.2.2 HZ.out _ _ _ _ _ _ _ _ _ _, below10 HB2.out (Nat.le_succ _) _ _ _ _ _ _ _ _ _ _⟩
set_option maxRecDepth 20000 in
set_option maxHeartbeats 8000000 in
theorem st_0 (d : DK) (lp tp : Option Addr) (ln lc tn tc : Nat) (c : UInt8) (w : World) (hl : d.line.length = ln) (ht : d.tr.length = tn) (hA : DkAt w d lp lc tp tc) (hs : d.st = 0) (hk : OkS d) : Calls Tryz.prog 71 #[.agg (dkC d (.slice lp ln lc) (.slice tp tn tc)), byteV c] w (AnsS (sizeD d c) false w) := by
  have HF := hid (fun (W : World) (hW : Below w.heap.size w W) => ans_same (hA.next hW) hl ht (size_any d lp tp ln lc tn tc c W hk) (sizeD_line d c) (sizeD_tr d c) (sizeD_gh d c))
  obtain ⟨D, hD⟩ : ∃ D, sizeD d c = D := ⟨_, rfl⟩
  rw [hD] at HF ⊢
  clear hD hk
  clear hA hl ht
  obtain ⟨most, len, st, e0, digits, size, more, line, bytes, tr, gh⟩ := d
  dsimp only at *
  unfold dkC byteV at HF ⊢
  dsimp only at HF ⊢
  subst hs
  push_cast at HF ⊢
  go_enter Tryz.func71, Tryz.ntmps71
  go_wp2_with (go_at_call 114; (with_reducible refine (HF.out _ (below_twoD w _ _)).mono ?_); rintro e w2 ⟨lp2, ln2, lc2, tp2, tn2, tc2, rfl, hl2, ht2, hA2, hb2⟩; unfold dkC; have HR := hid (And.intro hl2 (And.intro ht2 hA2)); have hz := (hb2.block (w.heap.size + 1) (by simp)).trans (two_new w _ _); have HB2 := hid (below_out (below_twoD w _ _) hb2); have HZ := hid hz; obtain ⟨k0, k1, k2, k3, k4, k5, k6, k7, k8, k9, kz⟩ := cells10 hz; have z0 := kz 0; have z1 := kz 1; have z2 := kz 2; have z3 := kz 3; have z4 := kz 4; have z5 := kz 5; have z6 := kz 6; have z7 := kz 7; have z8 := kz 8; have z9 := kz 9; clear hb2 hz kz hl2 ht2 hA2)
  refine bodyPost_ret (results_dk2 rfl _ _ _ 35 _ (0, 0) rfl (put10 HZ.out _ _ _ _ _ _ _ _ _ _) rfl) rfl ?_
  exact ⟨lp2, ln2, lc2, tp2, tn2, tc2, rfl, HR.out.1, HR.out.2.1, dk_put HR.out.2.2 HZ.out _ _ _ _ _ _ _ _ _ _, below10 HB2.out (Nat.le_succ _) _ _ _ _ _ _ _ _ _ _⟩
set_option maxRecDepth 20000 in
set_option maxHeartbeats 8000000 in
theorem st_1 (d : DK) (lp tp : Option Addr) (ln lc tn tc : Nat) (c : UInt8) (w : World) (hl : d.line.length = ln) (ht : d.tr.length = tn) (hA : DkAt w d lp lc tp tc) (hs : d.st = 1) (hk : OkS d) : Calls Tryz.prog 71 #[.agg (dkC d (.slice lp ln lc) (.slice tp tn tc)), byteV c] w (AnsS (sizeD d c) false w) := by
  have HF := hid (fun (W : World) (hW : Below w.heap.size w W) => ans_same (hA.next hW) hl ht (size_any d lp tp ln lc tn tc c W hk) (sizeD_line d c) (sizeD_tr d c) (sizeD_gh d c))
  obtain ⟨D, hD⟩ : ∃ D, sizeD d c = D := ⟨_, rfl⟩
  rw [hD] at HF ⊢
  clear hD hk
  clear hA hl ht
  obtain ⟨most, len, st, e0, digits, size, more, line, bytes, tr, gh⟩ := d
  dsimp only at *
  unfold dkC byteV at HF ⊢
  dsimp only at HF ⊢
  subst hs
  push_cast at HF ⊢
  go_enter Tryz.func71, Tryz.ntmps71
  go_wp2_with (go_at_call 114; (with_reducible refine (HF.out _ (below_twoD w _ _)).mono ?_); rintro e w2 ⟨lp2, ln2, lc2, tp2, tn2, tc2, rfl, hl2, ht2, hA2, hb2⟩; unfold dkC; have HR := hid (And.intro hl2 (And.intro ht2 hA2)); have hz := (hb2.block (w.heap.size + 1) (by simp)).trans (two_new w _ _); have HB2 := hid (below_out (below_twoD w _ _) hb2); have HZ := hid hz; obtain ⟨k0, k1, k2, k3, k4, k5, k6, k7, k8, k9, kz⟩ := cells10 hz; have z0 := kz 0; have z1 := kz 1; have z2 := kz 2; have z3 := kz 3; have z4 := kz 4; have z5 := kz 5; have z6 := kz 6; have z7 := kz 7; have z8 := kz 8; have z9 := kz 9; clear hb2 hz kz hl2 ht2 hA2)
  refine bodyPost_ret (results_dk2 rfl _ _ _ 35 _ (0, 0) rfl (put10 HZ.out _ _ _ _ _ _ _ _ _ _) rfl) rfl ?_
  exact ⟨lp2, ln2, lc2, tp2, tn2, tc2, rfl, HR.out.1, HR.out.2.1, dk_put HR.out.2.2 HZ.out _ _ _ _ _ _ _ _ _ _, below10 HB2.out (Nat.le_succ _) _ _ _ _ _ _ _ _ _ _⟩
set_option maxRecDepth 20000 in
set_option maxHeartbeats 8000000 in
theorem st_2 (d : DK) (lp tp : Option Addr) (ln lc tn tc : Nat) (c : UInt8) (w : World) (hl : d.line.length = ln) (ht : d.tr.length = tn) (hA : DkAt w d lp lc tp tc) (hs : d.st = 2) (hk : OkS d) : Calls Tryz.prog 71 #[.agg (dkC d (.slice lp ln lc) (.slice tp tn tc)), byteV c] w (AnsS (sizeD d c) false w) := by
  have HF := hid (fun (W : World) (hW : Below w.heap.size w W) => ans_same (hA.next hW) hl ht (size_any d lp tp ln lc tn tc c W hk) (sizeD_line d c) (sizeD_tr d c) (sizeD_gh d c))
  obtain ⟨D, hD⟩ : ∃ D, sizeD d c = D := ⟨_, rfl⟩
  rw [hD] at HF ⊢
  clear hD hk
  clear hA hl ht
  obtain ⟨most, len, st, e0, digits, size, more, line, bytes, tr, gh⟩ := d
  dsimp only at *
  unfold dkC byteV at HF ⊢
  dsimp only at HF ⊢
  subst hs
  push_cast at HF ⊢
  go_enter Tryz.func71, Tryz.ntmps71
  go_wp2_with (go_at_call 114; (with_reducible refine (HF.out _ (below_twoD w _ _)).mono ?_); rintro e w2 ⟨lp2, ln2, lc2, tp2, tn2, tc2, rfl, hl2, ht2, hA2, hb2⟩; unfold dkC; have HR := hid (And.intro hl2 (And.intro ht2 hA2)); have hz := (hb2.block (w.heap.size + 1) (by simp)).trans (two_new w _ _); have HB2 := hid (below_out (below_twoD w _ _) hb2); have HZ := hid hz; obtain ⟨k0, k1, k2, k3, k4, k5, k6, k7, k8, k9, kz⟩ := cells10 hz; have z0 := kz 0; have z1 := kz 1; have z2 := kz 2; have z3 := kz 3; have z4 := kz 4; have z5 := kz 5; have z6 := kz 6; have z7 := kz 7; have z8 := kz 8; have z9 := kz 9; clear hb2 hz kz hl2 ht2 hA2)
  refine bodyPost_ret (results_dk2 rfl _ _ _ 35 _ (0, 0) rfl (put10 HZ.out _ _ _ _ _ _ _ _ _ _) rfl) rfl ?_
  exact ⟨lp2, ln2, lc2, tp2, tn2, tc2, rfl, HR.out.1, HR.out.2.1, dk_put HR.out.2.2 HZ.out _ _ _ _ _ _ _ _ _ _, below10 HB2.out (Nat.le_succ _) _ _ _ _ _ _ _ _ _ _⟩
end Go.Proofs.YtnlmjlfoeodleaaGreatDoor
