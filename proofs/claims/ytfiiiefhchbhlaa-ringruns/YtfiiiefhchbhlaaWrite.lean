/- Write and Clone of package ring. -/
import Derived.Test.YtfiiiefhchbhlaaMem
namespace Go.Proofs.Ytfiiiefhchbhlaa
open Go.RowKit

/-- The cells of a slice of bytes at block b, from o on. -/
def CellsAt (w : World) (b o : Nat) (xs : List Int) : Prop := ∀ j v, xs[j]? = some v → w.cell? ⟨b, o + j, none⟩ = some (.int .u8 v)
theorem CellsAt.take {w : World} {b o : Nat} {xs : List Int} (h : CellsAt w b o xs) (k : Nat) : CellsAt w b o (xs.take k) := by
  intro j v hj
  rw [List.getElem?_take] at hj
  split at hj
  · exact h j v hj
  · simp at hj
theorem CellsAt.drop {w : World} {b o : Nat} {xs : List Int} (h : CellsAt w b o xs) (k : Nat) : CellsAt w b (o + k) (xs.drop k) := by
  intro j v hj
  rw [List.getElem?_drop] at hj
  have := h _ v hj
  rwa [← Nat.add_assoc] at this
theorem CellsAt.of_heap {w w' : World} {b o : Nat} {xs : List Int} (h : CellsAt w b o xs) (hb : w'.heap[b]? = w.heap[b]?) : CellsAt w' b o xs := by
  intro j v hj
  have := h j v hj
  unfold World.cell? at this ⊢
  rwa [hb]
theorem RingAt.copied {w w' : World} {r g S F C : Nat} {L A : List Int} (h : RingAt w r g S F C L) (hc : Copied g A w w') (hl : A.length = S) : RingAt w' r g S F C A :=
  ⟨(hc.other r h.apart).trans h.ring, hc.row, hl, h.first, h.count, h.most, h.apart⟩
theorem Copied.turn {r g : Nat} {A : List Int} {w0 w w' : World} (h : Copied g A w w') (ht : Turn r g w0 w) : Turn r g w0 w' :=
  ht.trans ⟨h.os, h.tape, h.output, by rw [h.size]; exact Nat.le_refl _, fun k _ _ hk => h.other k hk⟩
theorem Turn.drew {r g : Nat} {w w' : World} (h : Turn r g w w') : Turn r g w w'.drew := ⟨h.os, h.tape, h.output, h.size, h.block⟩
theorem mark2 (w : World) (r : Nat) (a b c y : Value) (t : TypeId) (h : w.heap[r]? = some (.cells #[a, b, c] t (0, 0))) :
    (w.setCell ⟨r, 2, none⟩ y).heap[r]? = some (.cells #[a, b, y] t (0, 0)) := by
  simp [World.setCell, Array.getElem?_modify, h]
/-- What is behind a Write. -/
structure Wrote (w w' : World) (r g S F C m : Nat) (A : List Int) : Prop where
  turn : Turn r g w w'
  size : w'.heap.size = w.heap.size
  ring : RingAt w' r g S F (C + m) A
theorem wrote_end {w w3 : World} {r g S F C m : Nat} {L A B : List Int} (hA : A = B) (_h : RingAt w r g S F C L) (h3 : RingAt w3 r g S F C A) (ht : Turn r g w w3) (hz : w3.heap.size = w.heap.size) (hm : C + m ≤ S) :
    Wrote w (w3.setCell ⟨r, 2, none⟩ (.int .i64 ((C : Int) + m))) r g S F C m B := by
  subst hA
  refine ⟨ht.setCell _ _, by simp [World.setCell]; exact hz, ?_, ?_, h3.len, h3.first, hm, h3.most, h3.apart⟩
  · rw [mark2 _ _ _ _ _ _ _ h3.ring]; rfl
  · rw [Below.heap_setCell _ _ _ _ (fun e => h3.apart e.symm)]; exact h3.room
set_option maxHeartbeats 2000000 in
theorem write_core {w : World} {r g S F C : Nat} {L : List Int} (h : RingAt w r g S F C L) (b o cap n m R : Nat) (xs : List Int) (hx : xs.length = m) (HR : Hid (S - C = R)) (hm : (m = n ∧ n ≤ R) ∨ (m = R ∧ R < n)) (hcap : n ≤ cap) (hmax : cap ≤ maxLen) (hcl : CellsAt w b o xs) (hbg : b ≠ g) :
    Calls Try.prog 12 #[.pointer (some ⟨r, 0, none⟩), .slice (some ⟨b, o, none⟩) n cap] w fun e w' => e = .returned (.int .i64 m) ∧ Wrote w w' r g S F C m (wrote L F C xs) := by
  have hS := h.most
  have hC := h.count
  have hF := h.first
  unfold maxLen at hmax
  have hmR : m ≤ R := by omega
  have hmn : m ≤ n := by omega
  have hRS : R ≤ S := by rw [← HR.out]; omega
  obtain ⟨p, HP⟩ : ∃ p, Hid (p = posn S F C) := ⟨_, rfl⟩
  have hp : p < S := by rw [HP.out]; exact posn_lt h.first h.count
  have hp1 : (0 : Int) ≤ p := by omega
  have hp2 : (p : Int) ≤ S := by omega
  obtain ⟨X, HX⟩ : ∃ X, Hid (X = xs.take (S - p)) := ⟨_, rfl⟩
  obtain ⟨d, HD⟩ : ∃ d, Hid (X.length = d) := ⟨_, rfl⟩
  obtain ⟨Y, HY⟩ : ∃ Y, Hid (Y = xs.drop (S - p)) := ⟨_, rfl⟩
  have hdv : (d = S - p ∧ S - p ≤ m) ∨ (d = m ∧ m < S - p) := by rw [← HD.out, HX.out, List.length_take, hx, Nat.min_def]; split <;> omega
  have HDV := hid hdv
  have hdm : d ≤ m := by omega
  have hdp : d ≤ S - p := by omega
  have HYl : Hid (Y.length = m - d) := by show _ = _; rw [HY.out, List.length_drop, hx]; omega
  have HXs : Hid (CellsAt w b o X) := by show CellsAt _ _ _ _; rw [HX.out]; exact hcl.take _
  have HYs : Hid (0 < Y.length → CellsAt w b (o + d) Y) := by
    intro hy
    have hd : S - p = d := by have := HYl.out; omega
    rw [HY.out, hd]
    exact hcl.drop _
  have HL1 : Hid ((splice L p X).length = S) := by show _ = _; rw [length_splice _ _ _ (by rw [HD.out, h.len]; omega), h.len]
  have HL2 : Hid ((splice (splice L p X) 0 Y).length = S) := by show _ = _; rw [length_splice _ _ _ (by rw [HL1.out, HYl.out]; omega), HL1.out]
  have HW : Hid (splice (splice L p X) 0 Y = wrote L F C xs) := by
    show _ = _
    unfold wrote
    rw [HY.out, HX.out, HP.out, h.len]
  have HMC : Hid (C + m ≤ S) := by show _ ≤ _; rw [← HR.out] at hmR; omega
  have c0 := h.c0
  have c2 := h.c2
  have hi1 : (0 : Int) ≤ m := by omega
  have hi2 : (m : Int) ≤ cap := by omega
  have hi3 : (0 : Int) ≤ d := by omega
  have hi4 : (d : Int) ≤ m := by omega
  have HH := hid h
  have HBG : Hid (b ≠ g) := hbg
  have hcap' : (cap : Int) ≤ 9223372036854775807 := by omega
  clear hcl hbg h hdv
  have hmin : (m = n ∧ ((n : Int) ≤ R)) ∨ (m = R ∧ (R : Int) < n) := by omega
  clear hm
  rcases hmin with ⟨rfl, hm⟩ | ⟨rfl, hm⟩
  all_goals
    go_enter Try.func12, Try.ntmps12
    go_wp2_with (go_at_call 21; refine (room_any HH.out).mono ?_; rintro e w' ⟨rfl, rfl⟩; rw [HR.out])
    go_region_held3 (fun w2 => w2.cell? ⟨r, 0, none⟩ = some (.slice (some ⟨g, 0, none⟩) S S) ∧ w2.cell? ⟨r, 2, none⟩ = some (.int .i64 C)) (exact ⟨by assumption, by assumption⟩) (first
      | (go_at_call 29; refine (spot_any HH.out.drew C hC).mono ?_; rintro e w1 ⟨rfl, rfl⟩; rw [← HP.out])
      | (refine step_copy_bytes rfl _ _ rfl _ _ _ _ _ _ rfl rfl g p L HH.out.drew.room X (by rw [HD.out]; have := HDV.out; simp only [Nat.min_def]; split <;> omega) (fun _ => ⟨if_neg (by omega), b, o, rfl, HXs.out⟩) (by rw [HD.out, HH.out.len]; omega) d HD.out ?_; intro w2 hc2; have h2 := HH.out.drew.copied hc2 HL1.out; have c02 := h2.c0; have c22 := h2.c2))
    go_wp2
    have hb2 := hc2.other b HBG.out
    go_region_held3 (fun w3 => w3.cell? ⟨r, 0, none⟩ = some (.slice (some ⟨g, 0, none⟩) S S)) (assumption)
      ((refine step_copy_bytes rfl _ _ rfl _ _ _ _ _ _ rfl rfl g 0 (splice L p X) h2.drew.room Y (by rw [HYl.out]; simp only [Nat.min_def]; split <;> omega) (fun hy => ⟨rfl, b, o + d, if_neg (by have := HYl.out; omega), (HYs.out hy).of_heap hb2⟩) (by rw [HYl.out, HL1.out]; omega) (m - d) HYl.out ?_; intro w3 hc3; have h3 := h2.drew.copied hc3 HL2.out; have c03 := h3.c0))
    all_goals
      have c23 := h3.c2
      have f23 := h3.fz 2
      have hsum : (C : Int) + m ≤ 1048576 := by have := HMC.out; omega
      go_wp2
      all_goals
        go_ret
        refine ⟨by first | rfl | (simp only [*]; rfl), ?_⟩
        exact wrote_end HW.out HH.out h3 (hc3.turn (hc2.turn (Turn.refl r g _).drew).drew) (by rw [hc3.size]; exact hc2.size) HMC.out
theorem wrote_nil (L : List Int) (F C : Nat) : wrote L F C [] = L := by simp [wrote, splice_nil]
set_option maxHeartbeats 2000000 in
theorem write_none {w : World} {r g S F C : Nat} {L : List Int} (h : RingAt w r g S F C L) :
    Calls Try.prog 12 #[.pointer (some ⟨r, 0, none⟩), .slice none 0 0] w fun e w' => e = .returned (.int .i64 (0 : Nat)) ∧ Wrote w w' r g S F C 0 L := by
  have hS := h.most
  have hC := h.count
  have hF := h.first
  obtain ⟨R, HR⟩ : ∃ R, Hid (S - C = R) := ⟨_, rfl⟩
  obtain ⟨p, HP⟩ : ∃ p, Hid (p = posn S F C) := ⟨_, rfl⟩
  have hp : p < S := by rw [HP.out]; exact posn_lt h.first h.count
  have hp1 : (0 : Int) ≤ p := by omega
  have hp2 : (p : Int) ≤ S := by omega
  have hR0 : (0 : Int) ≤ R := by omega
  have c0 := h.c0
  have c2 := h.c2
  have HH := hid h
  have HL1 : Hid ((splice L p []).length = S) := by show _ = _; rw [splice_nil, h.len]
  have HL2 : Hid ((splice (splice L p []) 0 []).length = S) := by show _ = _; rw [splice_nil, HL1.out]
  have HW : Hid (splice (splice L p []) 0 [] = L) := by show _ = _; rw [splice_nil, splice_nil]
  have HMC : Hid (C + 0 ≤ S) := by show _ ≤ _; omega
  clear h
  go_enter Try.func12, Try.ntmps12
  go_wp2_with (go_at_call 21; refine (room_any HH.out).mono ?_; rintro e w' ⟨rfl, rfl⟩; rw [HR.out])
  go_region_held3 (fun w2 => w2.cell? ⟨r, 0, none⟩ = some (.slice (some ⟨g, 0, none⟩) S S) ∧ w2.cell? ⟨r, 2, none⟩ = some (.int .i64 C)) (exact ⟨by assumption, by assumption⟩) (first
    | (go_at_call 29; refine (spot_any HH.out.drew C hC).mono ?_; rintro e w1 ⟨rfl, rfl⟩; rw [← HP.out])
    | (refine step_copy_bytes rfl _ _ rfl _ _ _ _ _ _ rfl rfl g p L HH.out.drew.room [] (by simp [Nat.min_def]) (fun hy => absurd hy (by simp)) (by rw [HH.out.len]; simp; omega) 0 rfl ?_; intro w2 hc2; have h2 := HH.out.drew.copied hc2 HL1.out; have c02 := h2.c0; have c22 := h2.c2))
  go_wp2
  go_region_held3 (fun w3 => w3.cell? ⟨r, 0, none⟩ = some (.slice (some ⟨g, 0, none⟩) S S)) (assumption)
    ((refine step_copy_bytes rfl _ _ rfl _ _ _ _ _ _ rfl rfl g 0 (splice L p []) h2.drew.room [] (by simp) (fun hy => absurd hy (by simp)) (by rw [HL1.out]; simp) 0 rfl ?_; intro w3 hc3; have h3 := h2.drew.copied hc3 HL2.out; have c03 := h3.c0))
  have c23 := h3.c2
  have f23 := h3.fz 2
  go_wp2
  go_ret
  refine ⟨rfl, ?_⟩
  have := wrote_end (m := 0) HW.out HH.out h3 (hc3.turn (hc2.turn (Turn.refl r g _).drew).drew) (by rw [hc3.size]; exact hc2.size) HMC.out
  simpa using this
/-- A slice of bytes that does not lie in block g. -/
def SrcAt (g : Nat) (w : World) (v : Value) (bs : List Int) : Prop :=
  (v = .slice none 0 0 ∧ bs = []) ∨ ∃ b o cap, v = .slice (some ⟨b, o, none⟩) bs.length cap ∧ bs.length ≤ cap ∧ cap ≤ maxLen ∧ CellsAt w b o bs ∧ b ≠ g
theorem hwrite_any {w : World} {r g S : Nat} {q : List Int} (h : Holds w r g S q) {v : Value} {bs : List Int} (hs : SrcAt g w v bs) (m : Nat) (hm : m = min bs.length (S - q.length)) :
    Calls Try.prog 12 #[.pointer (some ⟨r, 0, none⟩), v] w fun e w' => e = .returned (.int .i64 m) ∧ Turn r g w w' ∧ w'.heap.size = w.heap.size ∧ Holds w' r g S (q ++ bs.take m) := by
  obtain ⟨F, L, h1, h2⟩ := h
  have hl := h1.len
  have hf := h1.first
  have hc := h1.count
  rcases hs with ⟨rfl, rfl⟩ | ⟨b, o, cap, rfl, h3, h4, h5, h6⟩
  · obtain rfl : m = 0 := by simpa using hm
    refine (write_none h1).mono ?_
    rintro e w' ⟨rfl, hw⟩
    refine ⟨rfl, hw.turn, hw.size, ?_⟩
    have := Holds.of_ring hw.ring
    rw [Nat.add_zero, h2] at this
    simpa using this
  · have hx : (bs.take m).length = m := by rw [List.length_take]; omega
    refine (write_core h1 b o cap bs.length m (S - q.length) (bs.take m) hx rfl (by omega) h3 h4 (h5.take _) h6).mono ?_
    rintro e w' ⟨rfl, hw⟩
    refine ⟨rfl, hw.turn, hw.size, ?_⟩
    have := Holds.of_ring hw.ring
    have e := wrote_view L F q.length (bs.take m) (by omega) (by omega)
    rw [hx] at e
    rwa [e, h2] at this
end Go.Proofs.Ytfiiiefhchbhlaa
