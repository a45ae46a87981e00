/- Values in memory. -/
import Derived.Test.YtkoeihliaandeaaGreatDoorText
import Derived.Test.YtkoeihliaandeaaGreatDoorSpec
import Derived.Laws.ResultCell
namespace Go.Proofs.YtkoeihliaandeaaGreatDoor
open Go.RowKit

abbrev str (t : B) : ByteArray := ⟨t.toArray⟩
/-- The seven cells of a value. -/
def vcells (k : Int) (b : Bool) (t : B) (n : Int) (h : Bool) (lv nv : Value) : List Value := [.int .i64 k, .bool b, .string (str t), .int .i64 n, .bool h, lv, nv]
/-- A slice of n elements that lie where P says. -/
def SliceIs (v : Value) (n : Nat) (P : Nat → Nat → Prop) : Prop := ∃ p c, v = .slice p n c ∧ n ≤ c ∧ (0 < n → ∃ g o, p = some ⟨g, o, none⟩ ∧ P g o)
/-- The names at block g from o on. -/
def StrsAt (w : World) (ns : List B) (g o : Nat) : Prop := ∀ j t, ns[j]? = some t → w.cell? ⟨g, o + j, none⟩ = some (.string (str t))
mutual
/-- These seven cells are the value; all that they lead to lies in blocks of F. -/
def ValIs (w : World) (F : Nat → Prop) : JV → List Value → Prop
  | .mk k b t n h ls ns, cs => ∃ lv nv, cs = vcells k b t n h lv nv ∧ SliceIs lv ls.length (fun g o => F g ∧ ValsIs w F ls g o) ∧ SliceIs nv ns.length (fun g o => F g ∧ StrsAt w ns g o)
def ValsIs (w : World) (F : Nat → Prop) : List JV → Nat → Nat → Prop
  | [], _, _ => True
  | x :: xs, g, o => (∃ cs, ValIs w F x cs ∧ ∀ j c, cs[j]? = some c → w.cell? ⟨g, o + j, none⟩ = some c) ∧ ValsIs w F xs g (o + 7)
end
theorem SliceIs.imp {v : Value} {n : Nat} {P Q : Nat → Nat → Prop} (h : SliceIs v n P) (i : ∀ g o, P g o → Q g o) : SliceIs v n Q := by
  obtain ⟨p, c, rfl, hc, h⟩ := h
  exact ⟨p, c, rfl, hc, fun hn => by obtain ⟨g, o, rfl, h2⟩ := h hn; exact ⟨g, o, rfl, i g o h2⟩⟩
theorem StrsAt.keep {w w' : World} {ns : List B} {g o : Nat} (h : StrsAt w ns g o) (e : w'.heap[g]? = w.heap[g]?) : StrsAt w' ns g o := fun j t hj => by
  rw [World.cell?_of_block (w := w) (by exact e)]
  exact h j t hj
mutual
theorem ValIs.keep {w w' : World} {F F' : Nat → Prop} (e : ∀ k, F k → w'.heap[k]? = w.heap[k]?) (i : ∀ k, F k → F' k) : ∀ (t : JV) (cs : List Value), ValIs w F t cs → ValIs w' F' t cs
  | .mk k b t n h ls ns, cs, hv => by
    simp only [ValIs] at hv ⊢
    obtain ⟨lv, nv, rfl, h1, h2⟩ := hv
    exact ⟨lv, nv, rfl, h1.imp fun g o hg => ⟨i g hg.1, ValsIs.keep e i ls g o hg.1 hg.2⟩, h2.imp fun g o hg => ⟨i g hg.1, hg.2.keep (e g hg.1)⟩⟩
theorem ValsIs.keep {w w' : World} {F F' : Nat → Prop} (e : ∀ k, F k → w'.heap[k]? = w.heap[k]?) (i : ∀ k, F k → F' k) : ∀ (ls : List JV) (g o : Nat), F g → ValsIs w F ls g o → ValsIs w' F' ls g o
  | [], _, _, _, _ => trivial
  | x :: xs, g, o, hF, hv => by
    simp only [ValsIs] at hv ⊢
    obtain ⟨⟨cs, h1, h2⟩, h3⟩ := hv
    exact ⟨⟨cs, ValIs.keep e i x cs h1, fun j c hj => by rw [World.cell?_of_block (w := w) (by exact e g hF)]; exact h2 j c hj⟩, ValsIs.keep e i xs g (o + 7) hF h3⟩
end
theorem ValIs.form {w : World} {F : Nat → Prop} {t : JV} {cs : List Value} (h : ValIs w F t cs) : ∃ k b tx n hh p1 n1 q1 p2 n2 q2, cs = [.int .i64 k, .bool b, .string (str tx), .int .i64 n, .bool hh, .slice p1 n1 q1, .slice p2 n2 q2] := by
  cases t with
  | mk k b tx n hh ls ns =>
    simp only [ValIs] at h
    obtain ⟨lv, nv, rfl, ⟨p1, q1, rfl, _⟩, ⟨p2, q2, rfl, _⟩⟩ := h
    exact ⟨k, b, tx, n, hh, p1, _, q1, p2, _, q2, rfl⟩
theorem num_form (t : B) : ∃ n h, numV t = .mk 3 false t n h [] [] := by
  unfold numV
  split
  · exact ⟨_, _, rfl⟩
  · exact ⟨_, _, rfl⟩
def numI (t : B) : Int := match numV t with | .mk _ _ _ n _ _ _ => n
def numH (t : B) : Bool := match numV t with | .mk _ _ _ _ h _ _ => h
theorem two_new {w w1 : World} {o1 o2 : Obj} (h : Below ((w.alloc o1).alloc o2).heap.size ((w.alloc o1).alloc o2) w1) : w1.heap[w.heap.size]? = some o1 ∧ w1.heap[w.heap.size + 1]? = some o2 ∧ Below w.heap.size w w1 := by
  refine ⟨?_, ?_, ?_⟩
  · rw [h.block _ (by simp; omega), Below.heap_alloc _ _ _ (by simp)]
    exact heap_alloc_new w o1
  · rw [h.block _ (by simp)]
    have := heap_alloc_new (w.alloc o1) o2
    simpa using this
  · exact (((Below.refl _ _).alloc (Nat.le_refl _) o1).alloc (by simp) o2).trans (h.mono (by simp; omega))
theorem val_size : (Tryz.prog.info? 25).map (·.size) = some 7 := by kernel_rfl
theorem results_val1 {fn : Func} {p : Tmp} (h : fn.results = #[.cell p 25]) (tmps : Array Value) (w : World) (g : Nat) (t : TypeId) (cs : Array Value) (fr : Nat × Nat)
    (hp : tmps.getD p undef = .pointer (some ⟨g, 0, none⟩)) (hg : w.heap[g]? = some (.cells cs t fr)) (hs : cs.size = 7) : (results fn tmps).run Tryz.prog w = .ok (.agg cs) w := by
  exact results_cell_row h tmps w g t cs fr _ hp hg Tryz.underlying25 rfl (by rw [val_size, hs])
theorem results_val2 {fn : Func} {p u : Tmp} (h : fn.results = #[.cell p 25, .tmp u]) (tmps : Array Value) (w : World) (g : Nat) (t : TypeId) (cs : Array Value) (fr : Nat × Nat)
    (hp : tmps.getD p undef = .pointer (some ⟨g, 0, none⟩)) (hg : w.heap[g]? = some (.cells cs t fr)) (hs : cs.size = 7) : (results fn tmps).run Tryz.prog w = .ok (.tuple #[.agg cs, tmps.getD u undef]) w := by
  have hl := run_loadVar_row (P := Tryz.prog) w g t 25 cs fr _ hg Tryz.underlying25 rfl (by rw [val_size, hs])
  rw [results_cell_tmp h, hp]
  simp [asAddr, Result.andThen, hl]
theorem seven_put {w : World} {g : Nat} {T : TypeId} {fr : Nat × Nat} (h : ∃ cs : Array Value, cs.size = 7 ∧ w.heap[g]? = some (.cells cs T fr)) (c0 c1 c2 c3 c4 c5 c6 : Value) :
    (((((((w.setCell ⟨g, 0, none⟩ c0).setCell ⟨g, 1, none⟩ c1).setCell ⟨g, 2, none⟩ c2).setCell ⟨g, 3, none⟩ c3).setCell ⟨g, 4, none⟩ c4).setCell ⟨g, 5, none⟩ c5).setCell ⟨g, 6, none⟩ c6).heap[g]? = some (.cells #[c0, c1, c2, c3, c4, c5, c6] T fr) := by
  obtain ⟨⟨l⟩, hs, h⟩ := h
  rcases l with _ | ⟨x0, _ | ⟨x1, _ | ⟨x2, _ | ⟨x3, _ | ⟨x4, _ | ⟨x5, _ | ⟨x6, _ | ⟨x7, r⟩⟩⟩⟩⟩⟩⟩⟩ <;> simp at hs
  · simp [World.setCell, Array.getElem?_modify, h]
theorem has_seven {w : World} {g : Nat} {T : TypeId} {fr : Nat × Nat} {x0 x1 x2 x3 x4 x5 x6 : Value} (h : w.heap[g]? = some (.cells #[x0, x1, x2, x3, x4, x5, x6] T fr)) : ∃ cs : Array Value, cs.size = 7 ∧ w.heap[g]? = some (.cells cs T fr) := ⟨_, rfl, h⟩
theorem two_env {w : World} (h : Env w) (o1 o2 : Obj) : Env ((w.alloc o1).alloc o2) := (h.below (below_new w o1)).below (below_new _ o2)
theorem below_or {w w' : World} {e : TypeId} (h : w' = w ∨ ∃ t, w' = Lib.bytesWorld w e t) : Below w.heap.size w w' := by
  rcases h with rfl | ⟨t, rfl⟩
  · exact Below.refl _ _
  · exact Lib.bytesWorld_below _ _ _
structure Seven (w : World) (g : Nat) (c0 c1 c2 c3 c4 c5 c6 : Value) : Prop where
  a0 : w.cell? ⟨g, 0, none⟩ = some c0
  a1 : w.cell? ⟨g, 1, none⟩ = some c1
  a2 : w.cell? ⟨g, 2, none⟩ = some c2
  a3 : w.cell? ⟨g, 3, none⟩ = some c3
  a4 : w.cell? ⟨g, 4, none⟩ = some c4
  a5 : w.cell? ⟨g, 5, none⟩ = some c5
  a6 : w.cell? ⟨g, 6, none⟩ = some c6
  fz : ∀ j, w.frozen? ⟨g, j, none⟩ = false
theorem seven {w : World} {g : Nat} {c0 c1 c2 c3 c4 c5 c6 : Value} {T : TypeId} (h : w.heap[g]? = some (.cells #[c0, c1, c2, c3, c4, c5, c6] T (0, 0))) : Seven w g c0 c1 c2 c3 c4 c5 c6 := by
  refine ⟨?_, ?_, ?_, ?_, ?_, ?_, ?_, fun j => by simp [World.frozen?, h]⟩ <;> simp [World.cell?, h]
set_option maxRecDepth 20000 in
set_option maxHeartbeats 4000000 in
theorem num_any (t : B) (ht : t.length ≤ 1048576) (w : World) (hE : Env w) :
    Calls Tryz.prog 54 #[.string (str t)] w fun e w' => e = .returned (.agg (vcells 3 false t (numI t) (numH t) (.slice none 0 0) (.slice none 0 0)).toArray) ∧ Below w.heap.size w w' := by
  have hs : (str t).size ≤ 1048576 := by simpa [ByteArray.size] using ht
  have hd : (str t).data.toList = t := by simp
  cases ha : Lib.atoiAll t with
  | ok v =>
    have e1 : numI t = v := by simp [numI, numV, ha]
    have e2 : numH t = true := by simp [numH, numV, ha]
    rw [e1, e2]
    have HA := hid (show Lib.atoiAll (str t).data.toList = .ok v by rw [hd]; exact ha)
    have HS := hid hs
    have HE := hid hE
    obtain ⟨S, hS⟩ : ∃ S, str t = S := ⟨_, rfl⟩
    unfold vcells
    rw [hS] at HA HS ⊢
    clear ha hd hs e1 e2 hE
    go_enter Tryz.func54, Tryz.ntmps54
    go_wp2_with (go_at_call 76; refine (Tryz.strconv_Atoi_ok S (by have := HS.out; omega) v HA.out _).mono ?_; rintro e w1 ⟨rfl, hw⟩; have hb1 := below_or hw; clear hw; have HB := hid (two_new hb1); clear hb1; have s1 := seven HB.out.1; have s2 := seven HB.out.2.1; obtain ⟨a0, a1, a2, a3, a4, a5, a6, az⟩ := s1; obtain ⟨b0, b1, b2, b3, b4, b5, b6, bz⟩ := s2; have az0 := az 0; have az1 := az 1; have az2 := az 2; have az3 := az 3; have az4 := az 4; have az5 := az 5; have az6 := az 6; have bz3 := bz 3; have bz4 := bz 4; clear az bz)
    (try simp only [Exit.inBlock, Exit.then])
    refine bodyPost_ret (results_val1 rfl _ _ _ 25 _ (0, 0) rfl (seven_put ?hg _ _ _ _ _ _ _) rfl) rfl ?_
    case hg => first | exact has_seven HB.out.1 | exact has_seven ((Below.heap_setCell _ _ _ _ (Nat.ne_of_lt (Nat.lt_succ_self _))).trans ((Below.heap_setCell _ _ _ _ (Nat.ne_of_lt (Nat.lt_succ_self _))).trans HB.out.1))
    refine ⟨rfl, ?_⟩
    have h2 := HB.out.2.2
    repeat refine Below.setCell ?_ (by first | exact Nat.le_refl _ | exact Nat.le_succ _) _
    exact h2
  | «syntax» =>
    have e1 : numI t = 0 := by simp [numI, numV, ha]
    have e2 : numH t = false := by simp [numH, numV, ha]
    rw [e1, e2]
    have HA := hid (show Lib.atoiAll (str t).data.toList = .«syntax» by rw [hd]; exact ha)
    have HS := hid hs
    have HE := hid hE
    obtain ⟨S, hS⟩ : ∃ S, str t = S := ⟨_, rfl⟩
    unfold vcells
    rw [hS] at HA HS ⊢
    clear ha hd hs e1 e2 hE
    go_enter Tryz.func54, Tryz.ntmps54
    go_wp2_with (go_at_call 76; obtain ⟨te, pe, hv⟩ := (two_env HE.out _ _).syn; refine (Tryz.strconv_Atoi_syntax S (by have := HS.out; omega) HA.out _ _ hv (Or.inr ⟨_, _, rfl⟩)).mono ?_; rintro e w1 ⟨N, rfl, _, _, hb1⟩; have HB := hid (two_new hb1); clear hb1; have s1 := seven HB.out.1; have s2 := seven HB.out.2.1; obtain ⟨a0, a1, a2, a3, a4, a5, a6, az⟩ := s1; obtain ⟨b0, b1, b2, b3, b4, b5, b6, bz⟩ := s2; have az0 := az 0; have az1 := az 1; have az2 := az 2; have az3 := az 3; have az4 := az 4; have az5 := az 5; have az6 := az 6; have bz3 := bz 3; have bz4 := bz 4; clear az bz)
    (try simp only [Exit.inBlock, Exit.then])
    refine bodyPost_ret (results_val1 rfl _ _ _ 25 _ (0, 0) rfl (seven_put ?hg _ _ _ _ _ _ _) rfl) rfl ?_
    case hg => first | exact has_seven HB.out.1 | exact has_seven ((Below.heap_setCell _ _ _ _ (Nat.ne_of_lt (Nat.lt_succ_self _))).trans ((Below.heap_setCell _ _ _ _ (Nat.ne_of_lt (Nat.lt_succ_self _))).trans HB.out.1))
    refine ⟨rfl, ?_⟩
    have h2 := HB.out.2.2
    repeat refine Below.setCell ?_ (by first | exact Nat.le_refl _ | exact Nat.le_succ _) _
    exact h2
  | range =>
    have e1 : numI t = 0 := by simp [numI, numV, ha]
    have e2 : numH t = false := by simp [numH, numV, ha]
    rw [e1, e2]
    have HA := hid (show Lib.atoiAll (str t).data.toList = .range by rw [hd]; exact ha)
    have HS := hid hs
    have HE := hid hE
    obtain ⟨S, hS⟩ : ∃ S, str t = S := ⟨_, rfl⟩
    unfold vcells
    rw [hS] at HA HS ⊢
    clear ha hd hs e1 e2 hE
    go_enter Tryz.func54, Tryz.ntmps54
    go_wp2_with (go_at_call 76; obtain ⟨te, pe, hv⟩ := (two_env HE.out _ _).rng; refine (Tryz.strconv_Atoi_range S (by have := HS.out; omega) HA.out _ _ hv (Or.inr ⟨_, _, rfl⟩)).mono ?_; rintro e w1 ⟨N, rfl, _, _, hb1⟩; have HB := hid (two_new hb1); clear hb1; have s1 := seven HB.out.1; have s2 := seven HB.out.2.1; obtain ⟨a0, a1, a2, a3, a4, a5, a6, az⟩ := s1; obtain ⟨b0, b1, b2, b3, b4, b5, b6, bz⟩ := s2; have az0 := az 0; have az1 := az 1; have az2 := az 2; have az3 := az 3; have az4 := az 4; have az5 := az 5; have az6 := az 6; have bz3 := bz 3; have bz4 := bz 4; clear az bz)
    (try simp only [Exit.inBlock, Exit.then])
    refine bodyPost_ret (results_val1 rfl _ _ _ 25 _ (0, 0) rfl (seven_put ?hg _ _ _ _ _ _ _) rfl) rfl ?_
    case hg => first | exact has_seven HB.out.1 | exact has_seven ((Below.heap_setCell _ _ _ _ (Nat.ne_of_lt (Nat.lt_succ_self _))).trans ((Below.heap_setCell _ _ _ _ (Nat.ne_of_lt (Nat.lt_succ_self _))).trans HB.out.1))
    refine ⟨rfl, ?_⟩
    have h2 := HB.out.2.2
    repeat refine Below.setCell ?_ (by first | exact Nat.le_refl _ | exact Nat.le_succ _) _
    exact h2
end Go.Proofs.YtkoeihliaandeaaGreatDoor
