/- Sum of a sum under way, and Sum of package sha. -/
import Derived.Test.YtojcaoieodogdaaDoorWrite
namespace Go.Proofs.YtojcaoieodogdaaDoor
open Go.RowKit

def whole (m : List Int) : List Int := absorb m (m.length / 64)
def sha (m : List Int) : List Int := joinB (whole (m ++ padL m.length))
theorem padL_len (n : Nat) : (padL n).length = padLen n := padTo_len n 8
theorem sha_len (m : List Int) : (sha m).length = 32 := joinB_len _
theorem HoldsH.parts {w : World} {h : Nat} {m : List Int} (H : HoldsH w h m) : ∃ st rest, HashAt w h st rest m.length ∧ st = whole m := by
  obtain ⟨st, rest, h1, h2⟩ := H
  exact ⟨st, rest, h1, h2.st⟩
theorem write_nil {w : World} {h : Nat} {m : List Int} (H : HoldsH w h m) : Calls Tryd.prog 13 #[.pointer (some ⟨h, 0, none⟩), .slice none 0 0] w fun e w' => e = .returned (.tuple #[]) ∧ HoldsH w' h (m ++ []) ∧ Turn h w w' := by
  rw [List.append_nil]
  have HH := hid H
  clear H
  go_enter Tryd.func13, Tryd.ntmps13
  go_wp2
  go_loopw [1] (fun s W => s = .slice none 0 0 ∧ W = w) (fun _ _ => 0)
  case atStart => exact ⟨rfl, rfl⟩
  case round =>
    obtain ⟨rfl, rfl⟩ := hrel
    go_wp2
    refine bodyPost_end (results_none rfl _ _ _) rfl ?_
    exact ⟨rfl, HH.out, Turn.refl _ _⟩
/-- A slice that does not lie in block h. -/
def Off (h : Nat) (v : Value) : Prop := ∀ a n c, v = .slice (some a) n c → a.block ≠ h
theorem off_slice {h b o n c : Nat} (hb : h < b) : Off h (.slice (some ⟨b, o, none⟩) n c) := by
  intro a n' c' e
  simp only [Value.slice.injEq, Option.some.injEq] at e
  rw [← e.1]
  exact Nat.ne_of_gt hb
theorem write_any {w : World} {h : Nat} {m bs : List Int} {v : Value} (H : HoldsH w h m) (hK : KAt w) (h0 : 0 < h) (ha : ArgAt w v bs) (hne : Off h v) (hm : m.length + bs.length ≤ 1152921504606846976) :
    Calls Tryd.prog 13 #[.pointer (some ⟨h, 0, none⟩), v] w fun e w' => e = .returned (.tuple #[]) ∧ HoldsH w' h (m ++ bs) ∧ Turn h w w' := by
  rcases ha with ⟨rfl, rfl⟩ | ⟨b, o, cap, h1, rfl, h3, h4, h5⟩
  · exact write_nil H
  · exact write_core h b o cap bs.length m bs w H hK h0 (hne _ _ _ rfl) h1 h5 rfl h3 h4 hm
theorem wpList_load_by {w : World} {ops : Array Oper} {rest : List Oper} {o : Oper} {a : Act} {Q : Exit → Act → World → Prop} (hgd : o.guard = none) (t : TypeId) (x : Operand) (ho : o.op = .load t x) (pv v : Value) (hx : a.eval x = pv)
    (hr : (Instr.loadAt t pv).run Tryd.prog w = .ok v w) (h : wpList Tryd.prog ops Q rest (a.put o.dst v) w) : wpList Tryd.prog ops Q (o :: rest) a w := by
  refine wpList_plain hgd fun K hK => ?_
  unfold Oper.wp execOp
  simp only [ho, hx, Sem.run_bind, hr, Result.andThen_ok]
  exact hK _ _ h
theorem row_arg {w : World} {b n : Nat} {l : List Int} (h : RowAt w b (bsv l) 5) (hl : l.length = n) (hm : n ≤ maxLen) : ArgAt w (.slice (some ⟨b, 0, none⟩) n n) l := by
  subst hl
  refine .inr ⟨b, 0, l.length, h.lt, rfl, Nat.le_refl _, hm, fun j v hj => ?_⟩
  rw [Nat.zero_add, h.cell j]
  simp [bsv, hj]
theorem row_new2 (W : World) (x : Obj) (cs : Array Value) (t : TypeId) : RowAt ((W.alloc x).alloc (.cells cs t)) (W.heap.size + 1) cs t := by
  have := row_new (W.alloc x) cs t
  rwa [World.size_alloc] at this
/-- In Sum: the result's cell, and the twin of the sum. -/
structure SumP (w W : World) (m : List Int) : Prop where
  below : Below w.heap.size w W
  k : KAt W
  out : RowAt W w.heap.size (bsv (List.replicate 32 0)) 24
  twin : HoldsH W (w.heap.size + 1) m
theorem SumP.next {w W W' : World} {m : List Int} (h : SumP w W m) (hb : Below W.heap.size W W') : SumP w W' m :=
  ⟨h.below.trans (hb.mono h.below.size), h.k.below hb, h.out.below hb, h.twin.below hb⟩
theorem SumP.turn {w W W' : World} {m m' : List Int} (h : SumP w W m) (ht : Turn (w.heap.size + 1) W W') (hh : HoldsH W' (w.heap.size + 1) m') : SumP w W' m' := by
  have b : Below (w.heap.size + 1) W W' := ht.below (Nat.le_of_lt h.twin.lt) (Nat.le_refl _)
  exact ⟨h.below.trans (b.mono (by omega)), h.k.turn ht (by omega), (b.block _ (by omega)).trans h.out, hh⟩
theorem sum_start {w W1 : World} {h L : Nat} {m st rest : List Int} {z : Array Value} (H : HashAt w h st rest L) (hh : Hashed m st rest) (hK : KAt w) (hL : m.length = L)
    (hst : Stored (w.heap.size + 1) (hcells st rest L) 61 ((w.alloc (.cells (bsv (List.replicate 32 0)) 24)).alloc (.cells z 61)) W1) : SumP w W1 m ∧ HashAt W1 h st rest L := by
  have b1 : Below w.heap.size w ((w.alloc (.cells (bsv (List.replicate 32 0)) 24)).alloc (.cells z 61)) := ((Below.refl _ _).alloc (Nat.le_refl _) _).alloc (by simp) _
  have b2 : Below w.heap.size w W1 := hst.below b1 (by omega)
  refine ⟨⟨b2, hK.below b2, (hst.other _ (by omega)).trans ((row_new _ _ _).alloc _), ⟨st, rest, ⟨by rw [hL]; exact hst.row, H.st, H.rest⟩, hh⟩⟩, H.below b2⟩
set_option maxRecDepth 20000 in
set_option maxHeartbeats 2000000 in
theorem hsum_any {w : World} {h : Nat} {m : List Int} (H : HoldsH w h m) (hK : KAt w) (hm : m.length ≤ 1000000000000000000) :
    Calls Tryd.prog 15 #[.pointer (some ⟨h, 0, none⟩)] w fun e w' => e = .returned (.agg (bsv (sha m))) ∧ Below w.heap.size w w' := by
  obtain ⟨st, rest, H1, H2⟩ := H
  have h0 := hK.lt
  have c72 := H1.count
  obtain ⟨L, hL⟩ : ∃ L, m.length = L := ⟨_, rfl⟩
  rw [hL] at c72 H1
  have hb0 : Below w.heap.size w (w.alloc (.cells (bsv (List.replicate 32 0)) 24)) := (Below.refl _ _).alloc (Nat.le_refl _) _
  have H0 := hid (H1.below hb0)
  have HX : Hid (HashAt w h st rest L ∧ Hashed m st rest ∧ KAt w ∧ m.length = L ∧ m.length ≤ 1000000000000000000) := ⟨H1, H2, hK, hL, hm⟩
  have HR0 : Hid (RowAt (w.alloc (.cells (bsv (List.replicate 32 0)) 24)) w.heap.size (bsv (List.replicate 32 0)) 24) := row_new _ _ _
  have HB0 := hid hb0
  clear H1 H2 hK hL hm hb0 c72
  go_enter Tryd.func15, Tryd.ntmps15
  go_wp2_with (first
    | (refine wpList_load_row rfl 61 _ rfl _ rfl 61 (hcells st rest L) _ _ H0.out.row Tryd.underlying61 rfl (by rw [size55, hcells_size HX.out.1.st HX.out.1.rest]) ?_)
    | (refine wpList_store_as rfl 61 _ _ rfl _ (hcells st rest L) rfl rfl 61 _ (row_new2 _ _ _ _) (by rw [size55, hcells_size HX.out.1.st HX.out.1.rest]) (by rw [hcells_size HX.out.1.st HX.out.1.rest]; rfl) (hcells_one _ _ _) ?_; intro W1 hst; have HS1 := hid (sum_start HX.out.1 HX.out.2.1 HX.out.2.2.1 HX.out.2.2.2.1 hst); have c72 := HS1.out.2.count; clear hst H0 HR0 HB0)
    | (go_at_call 42; with_reducible refine (padding_any L (by have := HX.out; omega) _).mono ?_; rintro e w2 ⟨rfl, hr2, hb2⟩; have HS2 := hid (HS1.out.1.next hb2); have HR2 := hid (row_arg hr2 (padL_len L) (by have := padLen_bd L; unfold maxLen; omega)); have HZ2 := hid HS1.out.1.twin.lt; clear hr2 hb2 HS1 c72)
    | (go_at_call 13; (with_reducible refine (write_any HS2.out.twin HS2.out.k (Nat.succ_pos _) HR2.out (off_slice HZ2.out) (by have := HX.out; have := padLen_bd L; rw [padL_len]; omega)).mono ?_; rintro e w3 ⟨rfl, hh3, ht3⟩; have HS3 := hid (HS2.out.turn ht3 hh3); obtain ⟨st3, rest3, H3, H3h⟩ := hh3.parts; have HH3 := hid H3; have HE3 := hid H3h; clear ht3 hh3 HS2 HR2 H3 H3h HZ2))
    | (refine wpList_load_by rfl 57 _ rfl _ (.agg (ws st3)) rfl HH3.out.load_st ?_)
    | (go_at_call 43; (with_reducible refine (joined_any st3 HH3.out.st _).mono ?_; rintro e w4 ⟨rfl, hb4⟩; have HS4 := hid (HS3.out.next hb4); clear hb4 HS3 HH3))
    | (refine wpList_store_row rfl 24 _ _ rfl _ (bsv (joinB st3)) rfl rfl 24 (bsv (List.replicate 32 0)) HS4.out.out (by rw [size24, bsv_size, joinB_len]) (by rw [bsv_size, bsv_size, joinB_len]; simp) (bsv_one _) ?_))
  refine bodyPost_ret (results_cell_row rfl _ _ _ 24 (bsv (joinB st3)) _ _ rfl (HS4.out.out.setRow _) und24 rfl (by rw [size24, bsv_size, joinB_len])) rfl ?_
  refine ⟨?_, below_setRow HS4.out.below (Nat.le_refl _) _⟩
  unfold sha
  rw [HE3.out, HX.out.2.2.2.1]
end Go.Proofs.YtojcaoieodogdaaDoor
