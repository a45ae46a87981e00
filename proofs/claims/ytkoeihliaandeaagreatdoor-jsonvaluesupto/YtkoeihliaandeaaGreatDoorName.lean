/- A name that is not there yet. -/
import Derived.Test.YtkoeihliaandeaaGreatDoorVal
import Derived.Maps.OwnSet
import Derived.StringKeys
namespace Go.Proofs.YtkoeihliaandeaaGreatDoor
open Go.RowKit Go.Maps

theorem law : Keyed Tryz.prog 9 := string_keyed Tryz.underlying9
theorem zeroU (w : World) : (zeroValue 90).run Tryz.prog w = .ok (.agg #[]) w := by kernel_rfl
/-- Block m is a map of just these names. -/
def SetAt (w : World) (m : Nat) (ns : List B) : Prop := w.ownsMap Tryz.prog 9 (unitElem (H := Unit)) m ns.length (Maps.setOf (.agg []) (ns.map Lit.string))
theorem has_names (ns : List B) (nm : B) : Maps.has (Maps.setOf (H := Unit) (.agg []) (ns.map Lit.string)) (Lit.string nm) = ns.contains nm := by
  rw [Maps.has_setOf]
  · induction ns with
    | nil => rfl
    | cons a l ih =>
      rw [List.map_cons, List.any_cons, ih, List.contains_cons]
      congr 1
      show (a == nm) = (nm == a)
      exact Bool.eq_iff_iff.2 ⟨fun h => by rw [beq_iff_eq] at h ⊢; exact h.symm, fun h => by rw [beq_iff_eq] at h ⊢; exact h.symm⟩
  · intro x hx
    obtain ⟨t, _, rfl⟩ := List.mem_map.1 hx
    trivial
/-- Of what lay in memory, nothing but the blocks b and m has turned. -/
structure Turn2 (b m : Nat) (w w' : World) : Prop where
  os : w'.os = w.os
  tape : w'.tape = w.tape
  output : w'.output = w.output
  size : w.heap.size ≤ w'.heap.size
  block : ∀ k, k < w.heap.size → k ≠ b → k ≠ m → w'.heap[k]? = w.heap[k]?
theorem Turn.two {b m : Nat} {w w' : World} (h : Turn b w w') : Turn2 b m w w' := ⟨h.os, h.tape, h.output, h.size, fun k hk h1 _ => h.block k hk h1⟩
theorem Turn2.trans {b m : Nat} {x y z : World} (h : Turn2 b m x y) (k : Turn2 b m y z) : Turn2 b m x z :=
  ⟨k.os.trans h.os, k.tape.trans h.tape, k.output.trans h.output, Nat.le_trans h.size k.size, fun i hi h1 h2 => (k.block i (Nat.lt_of_lt_of_le hi h.size) h1 h2).trans (h.block i hi h1 h2)⟩
theorem Turn2.of_grown {b m : Nat} {w w' : World} (h : w.grownBy w' (some m)) : Turn2 b m w w' := ⟨h.os, h.tape, h.output, h.size, fun k hk _ h2 => h.block k hk (fun e => h2 (by simpa using e))⟩
/-- What holds within name. -/
structure Nm (w wr : World) (b m : Nat) (s : ByteArray) (d : Nat) (t : B) (ns : List B) : Prop where
  rd : Rd wr b s t d
  set : SetAt wr m ns
  turn : Turn2 b m w wr
theorem SetAt.lt {w : World} {m : Nat} {ns : List B} (h : SetAt w m ns) : m < w.heap.size := World.ownsMap.lt h
theorem Nm.next {w wr w' : World} {b m : Nat} {s : ByteArray} {d : Nat} {t u : B} {ns : List B} (h : Nm w wr b m s d t ns) (hm : m ≠ b) (ht : Turn b wr w') (hr : Rd w' b s u d) : Nm w w' b m s d u ns :=
  ⟨hr, World.ownsMap.kept h.set ht.toGrown (by simpa using hm), h.turn.trans ht.two⟩
theorem Nm.alloc {w wr : World} {b m : Nat} {s : ByteArray} {d : Nat} {t : B} {ns : List B} (h : Nm w wr b m s d t ns) (hm : m ≠ b) (o : Obj) : Nm w (wr.alloc o) b m s d t ns :=
  h.next hm ((Turn.refl _ _).alloc o) (h.rd.below (below_new _ _))
theorem Nm.put {w wr w' : World} {b m : Nat} {s : ByteArray} {d : Nat} {t nm : B} {ns : List B} (h : Nm w wr b m s d t ns) (hm : m ≠ b)
    (ho : w'.ownsMap Tryz.prog 9 (unitElem (H := Unit)) m (ns.length + 1) ((Maps.setOf (.agg []) (ns.map Lit.string)).put (Lit.string nm) (.agg []))) (hg : wr.grownBy w' (some m)) : Nm w w' b m s d t (ns ++ [nm]) := by
  refine ⟨h.rd.of_heap (hg.block b h.rd.lt (by simpa using hm.symm)), ?_, h.turn.trans (Turn2.of_grown hg)⟩
  unfold SetAt
  rw [List.map_append, List.map_cons, List.map_nil, Maps.setOf_snoc, List.length_append]
  exact ho
/-- A name or an error is answered. -/
def ToldM (ns : List B) (r : Res B) (b m : Nat) (s : ByteArray) (d : Nat) (w : World) (e : Ending) (w' : World) : Prop :=
  match r with
  | .ok nm t => e = .returned (.tuple #[.string (str nm), .nilIface]) ∧ Nm w w' b m s d t (ns ++ [nm])
  | .err k t => e = .returned (.tuple #[.string ⟨#[]⟩, errV k]) ∧ ∃ ns', Nm w w' b m s d t ns'
theorem len_key {nm : B} (h : nm.length ≤ 4194304) : (str nm).size ≤ maxLen := by
  show nm.toArray.size ≤ maxLen
  unfold maxLen
  simp
  omega
theorem name_head {l : B} (h : nx l = 34) : ∃ l1, l = 34 :: l1 := by
  cases l with
  | nil => simp [nx] at h
  | cons c t => exact ⟨t, by rw [show c = 34 from h]⟩
set_option maxRecDepth 20000 in
set_option maxHeartbeats 4000000 in
theorem name_any {w : World} {b m : Nat} {s : ByteArray} {l : B} {d : Nat} {ns : List B} (h : Rd w b s l d) (hE : Env w) (hb : 5 ≤ b) (hs : SetAt w m ns) (hm : m ≠ b) (hsz : s.size ≤ 1048576) (hn : ns.length ≤ 2000000) :
    Calls Tryz.prog 74 #[.pointer (some ⟨b, 0, none⟩), .map (some m)] w fun e w' => ToldM ns (nameS ns l) b m s d w e w' := by
  have R0 := hid (show Nm w w b m s d l ns from ⟨h, hs, (Turn.refl b w).two⟩)
  have HMB := hid hm
  have HB := hid hb
  have HSZ := hid hsz
  clear hsz
  have HE0 := hid hE
  obtain ⟨p, hA⟩ := h.at
  have HA := hid hA
  have c1 := hA.c1
  have hle := hA.le
  have hms := hA.most
  obtain ⟨X, hX⟩ : ∃ X : Nat, (nx l).toNat = X := ⟨_, rfl⟩
  have HX := hid hX
  clear h hs hE hA
  by_cases h34 : nx l = 34
  · obtain rfl : X = 34 := by rw [← hX, h34]; rfl
    have HL := hid (name_head h34)
    have H34 := hid h34
    have HE1 : ∀ n, Hid (Env (w.drewN n)) := fun n => HE0.out.turn ((Turn.refl b w).drewN n) HB.out
    clear hX h34 hm hb
    cases ht : text l with
    | err k u =>
      have HTx := hid ht
      have HR : Hid (nameS ns l = .err k u) := by unfold Hid nameS; rw [if_neg (by simpa using H34.out), ht]
      clear ht
      go_enter Tryz.func74, Tryz.ntmps74
      go_wp2_with (first
        | (go_at_call 48; refine (next_any R0.out.rd).mono ?_; rintro e w' ⟨rfl, n, rfl⟩; rw [HX.out]; have R1 := hid (R0.out.next HMB.out ((Turn.refl _ _).drewN n) (R0.out.rd.drewN n)); clear R0; replace HE1 := HE1 n)
        | (go_at_call 50; (with_reducible refine (text_any R1.out.rd HE1.out HB.out HSZ.out HL.out).mono ?_); intro e w1 hq; obtain ⟨rfl, hz⟩ := ToldT.no hq HTx.out; have R2 := hid (R1.out.next HMB.out hz.2 hz.1); clear hz hq R1))
      go_ret2
      rw [HR.out]
      exact ⟨rfl, ns, R2.out⟩
    | ok nm u =>
      have HTx := hid ht
      by_cases hf : ns.contains nm = true
      · have HF := hid hf
        have HR : Hid (nameS ns l = .err 6 l) := by unfold Hid nameS; rw [if_neg (by simpa using H34.out), ht]; exact if_pos hf
        clear ht hf
        go_enter Tryz.func74, Tryz.ntmps74
        go_wp2_with (first
          | (go_at_call 48; refine (next_any R0.out.rd).mono ?_; rintro e w' ⟨rfl, n, rfl⟩; rw [HX.out]; have R1 := hid (R0.out.next HMB.out ((Turn.refl _ _).drewN n) (R0.out.rd.drewN n)); clear R0; replace HE1 := HE1 n)
          | (go_at_call 50; (with_reducible refine (text_any R1.out.rd HE1.out HB.out HSZ.out HL.out).mono ?_); intro e w1 hq; obtain ⟨rfl, hz⟩ := ToldT.yes hq HTx.out; have R2 := hid (R1.out.next HMB.out hz.2.1 hz.1); have HKey := hid (Go.WideMaps.keyOf_string_mk (k := 9) Tryz.underlying9 (s := str nm) (len_key hz.2.2)); clear hz hq R1; obtain ⟨p2, hA2⟩ := R2.out.rd.at; have d1 := hA2.c1; have f1 := hA2.fz 1; have hbl := R2.out.rd.lt; clear hA2)
          | (at_lookup; refine wpList_lookup_own_unit _ rfl _ _ 89 rfl 9 90 law Tryz.underlying89 (zeroU _) m ns.length _ rfl R2.out.set _ _ rfl HKey.out ?_; rw [has_names, HF.out]))
        go_ret2
        rw [HR.out]
        refine ⟨rfl, ns, ?_⟩
        exact (R2.out.next HMB.out ((Turn.refl _ _).setCell _ _) (R2.out.rd.moved _ rfl HA.out.le HA.out.drop)).alloc HMB.out _
      · have hf2 : ns.contains nm = false := by simpa using hf
        have HF := hid hf2
        clear hf hf2
        cases hc : skip [58] (blanks u) with
        | none =>
          have HC := hid hc
          have HR : Hid (nameS ns l = .err 3 (blanks u)) := by unfold Hid nameS; rw [if_neg (by simpa using H34.out), ht]; simp only [HF.out, hc]; rfl
          clear hc ht
          go_enter Tryz.func74, Tryz.ntmps74
          go_wp2_with (first
            | (go_at_call 48; refine (next_any R0.out.rd).mono ?_; rintro e w' ⟨rfl, n, rfl⟩; rw [HX.out]; have R1 := hid (R0.out.next HMB.out ((Turn.refl _ _).drewN n) (R0.out.rd.drewN n)); clear R0; replace HE1 := HE1 n)
            | (go_at_call 50; (with_reducible refine (text_any R1.out.rd HE1.out HB.out HSZ.out HL.out).mono ?_); intro e w1 hq; obtain ⟨rfl, hz⟩ := ToldT.yes hq HTx.out; have R2 := hid (R1.out.next HMB.out hz.2.1 hz.1); have HKey := hid (Go.WideMaps.keyOf_string_mk (k := 9) Tryz.underlying9 (s := str nm) (len_key hz.2.2)); clear hz hq R1)
            | (at_lookup; refine wpList_lookup_own_unit _ rfl _ _ 89 rfl 9 90 law Tryz.underlying89 (zeroU _) m ns.length _ rfl R2.out.set _ _ rfl HKey.out ?_; rw [has_names, HF.out])
            | (at_mapUpdate; refine wpList_mapUpdate_own _ rfl _ _ _ 89 rfl 9 90 law Tryz.underlying89 (unitElem (H := Unit)) m ns.length _ rfl (R2.out.set.alloc _) (by unfold maxLen; omega) _ _ _ rfl rfl HKey.out _ [] unitElem_mk ?_; intro w2 hown hgrow; have R3 := hid (Nm.put (R2.out.alloc HMB.out _) HMB.out hown hgrow); clear hown hgrow R2)
            | (go_at_call 30; (with_reducible refine (blanks_any R3.out.rd).mono ?_); rintro e w3 ⟨rfl, z1, z2⟩; have R4 := hid (R3.out.next HMB.out z2 z1); clear z1 z2 R3)
            | (go_at_call 47; (with_reducible refine (skip_colon R4.out.rd).mono ?_); intro e w4 hq; obtain ⟨rfl, hz⟩ := Skips.no hq HC.out; have R5 := hid (R4.out.next HMB.out hz.2 hz.1); clear hz hq R4))
          go_ret2
          rw [HR.out]
          exact ⟨rfl, _, R5.out⟩
        | some t =>
          have HC := hid hc
          have HR : Hid (nameS ns l = .ok nm (blanks t)) := by unfold Hid nameS; rw [if_neg (by simpa using H34.out), ht]; simp only [HF.out, hc]; rfl
          clear hc ht
          go_enter Tryz.func74, Tryz.ntmps74
          go_wp2_with (first
            | (go_at_call 48; refine (next_any R0.out.rd).mono ?_; rintro e w' ⟨rfl, n, rfl⟩; rw [HX.out]; have R1 := hid (R0.out.next HMB.out ((Turn.refl _ _).drewN n) (R0.out.rd.drewN n)); clear R0; replace HE1 := HE1 n)
            | (go_at_call 50; (with_reducible refine (text_any R1.out.rd HE1.out HB.out HSZ.out HL.out).mono ?_); intro e w1 hq; obtain ⟨rfl, hz⟩ := ToldT.yes hq HTx.out; have R2 := hid (R1.out.next HMB.out hz.2.1 hz.1); have HKey := hid (Go.WideMaps.keyOf_string_mk (k := 9) Tryz.underlying9 (s := str nm) (len_key hz.2.2)); clear hz hq R1)
            | (at_lookup; refine wpList_lookup_own_unit _ rfl _ _ 89 rfl 9 90 law Tryz.underlying89 (zeroU _) m ns.length _ rfl R2.out.set _ _ rfl HKey.out ?_; rw [has_names, HF.out])
            | (at_mapUpdate; refine wpList_mapUpdate_own _ rfl _ _ _ 89 rfl 9 90 law Tryz.underlying89 (unitElem (H := Unit)) m ns.length _ rfl (R2.out.set.alloc _) (by unfold maxLen; omega) _ _ _ rfl rfl HKey.out _ [] unitElem_mk ?_; intro w2 hown hgrow; have R3 := hid (Nm.put (R2.out.alloc HMB.out _) HMB.out hown hgrow); clear hown hgrow R2)
            | (go_at_call 30; (with_reducible refine (blanks_any R3.out.rd).mono ?_); rintro e w3 ⟨rfl, z1, z2⟩; have R4 := hid (R3.out.next HMB.out z2 z1); clear z1 z2 R3)
            | (go_at_call 47; (with_reducible refine (skip_colon R4.out.rd).mono ?_); intro e w4 hq; obtain ⟨rfl, hz⟩ := Skips.yes hq HC.out; have R5 := hid (R4.out.next HMB.out hz.2 hz.1); clear hz hq R4)
            | (go_at_call 30; (with_reducible refine (blanks_any R5.out.rd).mono ?_); rintro e w5 ⟨rfl, z1, z2⟩; have R6 := hid (R5.out.next HMB.out z2 z1); clear z1 z2 R5))
          go_ret2
          rw [HR.out]
          exact ⟨rfl, R6.out⟩
  · have hne : ((X : Int) == 34) = false := by
      simp only [beq_eq_false_iff_ne, ne_eq]
      intro e
      apply h34
      apply UInt8.toNat_inj.1
      rw [hX]
      show X = 34
      omega
    have HR : Hid (nameS ns l = .err 3 l) := by unfold Hid nameS; rw [if_pos h34]
    clear hX h34
    go_enter Tryz.func74, Tryz.ntmps74
    go_wp2_with (go_at_call 48; refine (next_any R0.out.rd).mono ?_; rintro e w' ⟨rfl, n, rfl⟩; rw [HX.out]; have R1 := hid (R0.out.next HMB.out ((Turn.refl _ _).drewN n) (R0.out.rd.drewN n)); clear R0)
    go_ret2
    rw [HR.out]
    exact ⟨rfl, ns, R1.out⟩
end Go.Proofs.YtkoeihliaandeaaGreatDoor
