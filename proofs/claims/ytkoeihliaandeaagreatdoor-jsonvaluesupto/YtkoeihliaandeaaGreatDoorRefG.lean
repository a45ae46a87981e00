/- The document's reading: the parts of a list, of an object. -/
import Derived.Test.YtkoeihliaandeaaGreatDoorRefT
namespace Go.Proofs.YtkoeihliaandeaaGreatDoor
open Go.RowKit

set_option maxRecDepth 20000 in
set_option maxHeartbeats 8000000 in
theorem has_any {w : World} {ns : List B} {p : Option Addr} {cc : Nat} (t : B) (hn : NamesOn w ns p) (hl : ns.length ≤ 140737488355328) : Calls Tryz.prog 66 #[.slice p ns.length cc, .string (str t)] w fun e w' => e = .returned (.bool (ns.contains t)) ∧ w' = w := by
  obtain ⟨n, hnn⟩ : ∃ n, ns.length = n := ⟨_, rfl⟩
  have HN := hid hnn
  obtain ⟨G, hG⟩ : ∃ G, ns.contains t = G := ⟨_, rfl⟩
  have HG := hid hG
  have HO := hid hn
  obtain ⟨TT, hTT⟩ : ∃ TT, str t = TT := ⟨_, rfl⟩
  have HTT := hid hTT
  rw [hnn, hG, hTT]
  rw [hnn] at hl
  clear hnn hG hn hTT
  go_enter Tryz.func66, Tryz.ntmps66
  go_wp2
  go_loopg [5] (n + 1) (fun gk s5 wr => ∃ i : Nat, i ≤ n ∧ gk = n - i + 1 ∧ s5 = .int .i64 (i : Int) ∧ (ns.drop i).contains t = G ∧ wr = w)
  case atStart => exact ⟨0, by omega, rfl, rfl, HG.out, rfl⟩
  case round =>
    obtain ⟨i, hi, rfl, rfl, hs, rfl⟩ := hrel
    have HD := hid hs
    clear hs
    by_cases hin : i < n
    · have b1 : (i : Int) < (n : Int) := by omega
      have hi1 : i < ns.length := by rw [HN.out]; exact hin
      obtain ⟨g, o, rfl, hc1⟩ := HO.out i ns[i] (List.getElem?_eq_getElem hi1)
      have HStep := hid (show (ns.drop i).contains t = (t == ns[i] || (ns.drop (i + 1)).contains t) from by rw [drop_get hi1, List.contains_cons])
      generalize ns[i] = z1 at hc1 HStep
      clear hi1
      by_cases hz : z1 = t
      · subst hz
        have HF := hid (show G = true from by rw [← HD.out, HStep.out]; simp)
        rw [HTT.out] at hc1
        go_wp2
        go_ret
        rw [HF.out]
        exact ⟨rfl, rfl⟩
      · have q1 : ¬ (str z1).toList = TT.toList := fun e => hz (by rw [← HTT.out, ByteArray.toList_eq, ByteArray.toList_eq] at e; simpa using e)
        have q2 : ((str z1).toList == TT.toList) = false := beq_eq_false_iff_ne.2 q1
        have q3 : decide ((str z1).toList = TT.toList) = false := decide_eq_false q1
        have HF := hid (show (ns.drop (i + 1)).contains t = G from by rw [← HD.out, HStep.out, beq_eq_false_iff_ne.2 (fun e => hz e.symm)]; simp)
        generalize str z1 = T at hc1 q1 q2 q3
        clear hz
        go_wp2
        go_roundg (n - (i + 1) + 1)
        case measure => omega
        case rel => exact ⟨i + 1, by omega, rfl, by push_cast; rfl, HF.out, rfl⟩
    · have b1 : ¬ (i : Int) < (n : Int) := by omega
      have HF := hid (show G = false from by
        rw [← HD.out, List.drop_of_length_le (show ns.length ≤ i by rw [HN.out]; omega)]
        rfl)
      go_wp2
      go_ret
      rw [HF.out]
      exact ⟨rfl, rfl⟩
/-- A name and its colon. -/
def memQ (ns : List B) (l : B) : Res B := match textQ l with
  | .err k u => .err k u
  | .ok nm u => if ns.contains nm then .err 6 l else match word [58] (blanks u) with
    | .err k v => .err k v
    | .ok _ v => .ok nm v
theorem name_mem (ns : List B) (l : B) : nameS ns l = match memQ ns l with
    | .err k u => .err k u
    | .ok nm v => .ok nm (blanks v) := by
  unfold nameS memQ textQ
  by_cases h : nx l = 34
  · rw [if_neg (fun e => e h), if_pos h]
    cases text l with
    | err k u => rfl
    | ok nm u =>
      simp only
      split
      · rfl
      · cases hb : blanks u with
        | nil => rfl
        | cons c t =>
          by_cases h58 : c = 58
          · subst h58
            rfl
          · simp [skip, word, h58]
  · rw [if_pos h, if_neg h]
theorem textQ_err {l u : B} {k : Nat} (h : textQ l = .err k u) : k ≠ 0 := by
  unfold textQ at h
  split at h
  · rename_i h34
    exact text_err h34 h
  · simp at h
    omega
def ToldRm (s : ByteArray) (r : Res B) (w : World) (e : Ending) (w' : World) : Prop := ∃ (P k : Nat) (nm : B), P ≤ s.size ∧ e = .returned (.tuple #[.agg #[.string s, .int .i64 (P : Int), .int .i64 (k : Int)], .string (str nm)]) ∧ Below w.heap.size w w' ∧ ((k = 0 ∧ r = .ok nm (s.data.toList.drop P)) ∨ (k ≠ 0 ∧ r = .err k (s.data.toList.drop P)))
theorem NamesOn.keep {w w' : World} {ns : List B} {p : Option Addr} {b : Nat} (h : NamesOn w ns p) (ht : Turn b w w') (hb : ∀ g o, p = some ⟨g, o, none⟩ → g ≠ b) : NamesOn w' ns p := fun j t hj => by
  obtain ⟨g, o, h1, h2⟩ := h j t hj
  refine ⟨g, o, h1, ?_⟩
  rw [World.cell?_of_block (w := w) (by exact ht.block g (lt_of_cell h2) (hb g o h1))]
  exact h2
set_option maxRecDepth 20000 in
set_option maxHeartbeats 8000000 in
theorem rmember_any (s : ByteArray) (p : Nat) {ns : List B} {pn : Option Addr} {cn : Nat} (hp : p ≤ s.size) (hs : s.size ≤ 1048576) (w : World) (hn : NamesOn w ns pn) (hl : ns.length ≤ 140737488355328) : Calls Tryz.prog 56 #[.agg #[.string s, .int .i64 (p : Int), .int .i64 0], .slice pn ns.length cn] w fun e w' => ToldRm s (memQ ns (s.data.toList.drop p)) w e w' := by
  have HZ := hid hp
  have HS := hid hs
  have HS4 := hid (show s.size ≤ 140737488355328 by omega)
  have HL := hid hl
  obtain ⟨T, hT⟩ : ∃ T, memQ ns (s.data.toList.drop p) = T := ⟨_, rfl⟩
  rw [hT]
  have HT := hid hT
  obtain ⟨W0, hW0⟩ : ∃ W0, W0 = (w.alloc (.cells #[.string s, .int .i64 (p : Int), .int .i64 0] 49 (0, 0))).alloc (.cells #[.string ⟨#[]⟩, .int .i64 0, .int .i64 0] 49 (0, 0)) := ⟨_, rfl⟩
  have HW0 := hid hW0
  have HR0 := hid (RW2.start hW0)
  have HN0 := hid (hn.below (w' := W0) (by rw [hW0]; exact two_box _ _ _))
  have HNb := hid (show ∀ g o, 0 < ns.length → pn = some ⟨g, o, none⟩ → g ≠ w.heap.size from fun g o hpos e => by
    obtain ⟨g2, o2, e2, hc⟩ := hn 0 ns[0] (List.getElem?_eq_getElem hpos)
    rw [e] at e2
    simp only [Option.some.injEq, Addr.mk.injEq] at e2
    have := lt_of_cell hc
    omega)
  have HKp := hid (show ∀ V V', NamesOn V ns pn → Turn w.heap.size V V' → NamesOn V' ns pn from fun V V' h ht j t hj => by
    obtain ⟨g, o, h1, h2⟩ := h j t hj
    refine ⟨g, o, h1, ?_⟩
    have hpos : 0 < ns.length := by have := (List.getElem?_eq_some_iff.1 hj).1; omega
    rw [World.cell?_of_block (w := V) (by exact ht.block g (lt_of_cell h2) (HNb.out g o hpos h1))]
    exact h2)
  clear hT hn
  obtain ⟨x0, x1, x2, xz⟩ := three HR0.out.r; have xz0 := xz 0; have xz1 := xz 1; have xz2 := xz 2; clear xz
  cases htx : textQ (s.data.toList.drop p) with
  | err k u =>
    have hk := textQ_err htx
    have HTx := hid htx
    have HN := hid (show T = .err k u from by rw [← HT.out]; unfold memQ; rw [htx])
    have q1 : ((k : Int) != 0) = true := by simp only [bne_iff_ne, ne_eq]; omega
    clear htx
    go_enter Tryz.func56, Tryz.ntmps56
    clear hW0
    go_wp2_with (rw [← HW0.out]; (go_at_call 35; have hcall : Calls Tryz.prog 35 #[.agg #[.string s, .int .i64 (p : Int), .int .i64 0]] W0 _ := rtext_any s p (p : Int) rfl HZ.out HS.out _; rw [HTx.out] at hcall; (with_reducible refine hcall.mono ?_); clear hcall; rintro e w1 ⟨P2, hP2, hd2, rfl, hb⟩; have HD2 := hid hd2; have HR1 := hid (HR0.out.below hb); have HN1 := hid (HN0.out.below hb); have HR2 := hid (HR1.out.put s (P2 : Int) (k : Int)); have HN2 := hid (HKp.out _ _ HN1.out ((((Turn.refl w.heap.size w1).setCell 0 (.string s)).setCell 1 (.int .i64 (P2 : Int))).setCell 2 (.int .i64 (k : Int)))); clear hb hd2; obtain ⟨a0, a1, a2, az⟩ := three HR1.out.r; have az0 := az 0; have az1 := az 1; have az2 := az 2; clear az; obtain ⟨b0, b1, b2, bz⟩ := three HR2.out.r; have bz0 := bz 0; have bz1 := bz 1; have bz2 := bz 2; clear bz; obtain ⟨c0, c1, c2, cz⟩ := three HR2.out.o; have cz0 := cz 0; have cz1 := cz 1; have cz2 := cz 2; clear cz))
    (try simp only [Exit.inBlock, Exit.then])
    refine bodyPost_ret (results_rdtmp rfl _ _ _ 49 _ (0, 0) rfl (three_put (has_three HR2.out.o) _ _ _) rfl) rfl ?_
    exact ⟨P2, k, [], hP2, rfl, HR2.out.out _ _ _, .inr ⟨hk, by rw [HD2.out]; exact HN.out⟩⟩
  | ok nm u =>
    have HTx := hid htx
    cases hc : ns.contains nm with
    | true =>
      have HC := hid hc
      have HN := hid (show T = .err 6 (s.data.toList.drop p) from by rw [← HT.out]; unfold memQ; rw [htx]; simp only; rw [if_pos hc])
      clear htx hc hW0
      go_enter Tryz.func56, Tryz.ntmps56
      go_wp2_with (first
        | (rw [← HW0.out]; (go_at_call 35; have hcall : Calls Tryz.prog 35 #[.agg #[.string s, .int .i64 (p : Int), .int .i64 0]] W0 _ := rtext_any s p (p : Int) rfl HZ.out HS.out _; rw [HTx.out] at hcall; (with_reducible refine hcall.mono ?_); clear hcall; rintro e w1 ⟨P2, hP2, hd2, rfl, hb⟩; have HD2 := hid hd2; have HR1 := hid (HR0.out.below hb); have HN1 := hid (HN0.out.below hb); have HR2 := hid (HR1.out.put s (P2 : Int) 0); have HN2 := hid (HKp.out _ _ HN1.out ((((Turn.refl w.heap.size w1).setCell 0 (.string s)).setCell 1 (.int .i64 (P2 : Int))).setCell 2 (.int .i64 0))); clear hb hd2; obtain ⟨a0, a1, a2, az⟩ := three HR1.out.r; have az0 := az 0; have az1 := az 1; have az2 := az 2; clear az; obtain ⟨b0, b1, b2, bz⟩ := three HR2.out.r; have bz0 := bz 0; have bz1 := bz 1; have bz2 := bz 2; clear bz; obtain ⟨c0, c1, c2, cz⟩ := three HR2.out.o; have cz0 := cz 0; have cz1 := cz 1; have cz2 := cz 2; clear cz))
        | (go_at_call 66; have hcall := has_any (cc := cn) nm HN2.out HL.out; rw [HC.out] at hcall; (with_reducible refine hcall.mono ?_); clear hcall; rintro e w3 ⟨rfl, hw3⟩; have hw4 := hw3.symm; subst hw4; clear hw3)
        | (go_at_call 20; (with_reducible refine (rfail_any s (P2 : Int) (p : Int) 6 _).mono ?_); rintro e wf ⟨rfl, hb⟩; have HRf := hid (HR2.out.below hb); clear hb; obtain ⟨y0, y1, y2, yz⟩ := three HRf.out.o; have yz0 := yz 0; have yz1 := yz 1; have yz2 := yz 2; clear yz))
      (try simp only [Exit.inBlock, Exit.then])
      refine bodyPost_ret (results_rdtmp rfl _ _ _ 49 _ (0, 0) rfl (three_put (has_three HRf.out.o) _ _ _) rfl) rfl ?_
      exact ⟨p, 6, [], HZ.out, rfl, HRf.out.out _ _ _, .inr ⟨by omega, HN.out⟩⟩
    | false =>
      have HC := hid hc
      cases hwd : word [58] (blanks u) with
      | err k v =>
        obtain rfl := word_three _ _ _ _ hwd
        have HWd := hid hwd
        have HN := hid (show T = .err 3 v from by rw [← HT.out]; unfold memQ; rw [htx]; simp only; rw [if_neg (by rw [hc]; decide), hwd])
        clear htx hc hW0 hwd
        go_enter Tryz.func56, Tryz.ntmps56
        go_wp2_with (first
          | (rw [← HW0.out]; (go_at_call 35; have hcall : Calls Tryz.prog 35 #[.agg #[.string s, .int .i64 (p : Int), .int .i64 0]] W0 _ := rtext_any s p (p : Int) rfl HZ.out HS.out _; rw [HTx.out] at hcall; (with_reducible refine hcall.mono ?_); clear hcall; rintro e w1 ⟨P2, hP2, hd2, rfl, hb⟩; have HD2 := hid hd2; have HR1 := hid (HR0.out.below hb); have HN1 := hid (HN0.out.below hb); have HR2 := hid (HR1.out.put s (P2 : Int) 0); have HN2 := hid (HKp.out _ _ HN1.out ((((Turn.refl w.heap.size w1).setCell 0 (.string s)).setCell 1 (.int .i64 (P2 : Int))).setCell 2 (.int .i64 0))); clear hb hd2; obtain ⟨a0, a1, a2, az⟩ := three HR1.out.r; have az0 := az 0; have az1 := az 1; have az2 := az 2; clear az; obtain ⟨b0, b1, b2, bz⟩ := three HR2.out.r; have bz0 := bz 0; have bz1 := bz 1; have bz2 := bz 2; clear bz; obtain ⟨c0, c1, c2, cz⟩ := three HR2.out.o; have cz0 := cz 0; have cz1 := cz 1; have cz2 := cz 2; clear cz))
          | (go_at_call 66; have hcall := has_any (cc := cn) nm HN2.out HL.out; rw [HC.out] at hcall; (with_reducible refine hcall.mono ?_); clear hcall; rintro e w3 ⟨rfl, hw3⟩; have hw4 := hw3.symm; subst hw4; clear hw3)
          | (go_at_call 32; have hcall := rblanks_any s P2 0 hP2 HS4.out (((w1.setCell ⟨w.heap.size, 0, none⟩ (.string s)).setCell ⟨w.heap.size, 1, none⟩ (.int .i64 (P2 : Int))).setCell ⟨w.heap.size, 2, none⟩ (.int .i64 0)); (with_reducible refine hcall.mono ?_); clear hcall; rintro e w4 ⟨P3, _, hP3, hd3, rfl, hb⟩; have HR3 := hid (HR2.out.below hb); have HD3 := hid (show s.data.toList.drop P3 = blanks u from by rw [hd3, HD2.out]); clear hb hd3)
          | (go_at_call 36; have hcall : Calls Tryz.prog 36 #[.agg #[.string s, .int .i64 (P3 : Int), .int .i64 0], .string ⟨#[58]⟩] w4 _ := rword_any s P3 [58] hP3 HS4.out (by decide) (by decide) _; rw [HD3.out, HWd.out] at hcall; (with_reducible refine hcall.mono ?_); clear hcall; rintro e w5 ⟨P4, hP4, hd4, rfl, hb⟩; have HD4 := hid hd4; have HR4 := hid (HR3.out.below hb); clear hb hd4; obtain ⟨y0, y1, y2, yz⟩ := three HR4.out.o; have yz0 := yz 0; have yz1 := yz 1; have yz2 := yz 2; clear yz))
        (try simp only [Exit.inBlock, Exit.then])
        refine bodyPost_ret (results_rdtmp rfl _ _ _ 49 _ (0, 0) rfl (three_put (has_three HR4.out.o) _ _ _) rfl) rfl ?_
        exact ⟨P4, 3, nm, hP4, rfl, HR4.out.out _ _ _, .inr ⟨by omega, by rw [HD4.out]; exact HN.out⟩⟩
      | ok y v =>
        have HWd := hid hwd
        have HN := hid (show T = .ok nm v from by rw [← HT.out]; unfold memQ; rw [htx]; simp only; rw [if_neg (by rw [hc]; decide), hwd])
        clear htx hc hW0 hwd
        go_enter Tryz.func56, Tryz.ntmps56
        go_wp2_with (first
          | (rw [← HW0.out]; (go_at_call 35; have hcall : Calls Tryz.prog 35 #[.agg #[.string s, .int .i64 (p : Int), .int .i64 0]] W0 _ := rtext_any s p (p : Int) rfl HZ.out HS.out _; rw [HTx.out] at hcall; (with_reducible refine hcall.mono ?_); clear hcall; rintro e w1 ⟨P2, hP2, hd2, rfl, hb⟩; have HD2 := hid hd2; have HR1 := hid (HR0.out.below hb); have HN1 := hid (HN0.out.below hb); have HR2 := hid (HR1.out.put s (P2 : Int) 0); have HN2 := hid (HKp.out _ _ HN1.out ((((Turn.refl w.heap.size w1).setCell 0 (.string s)).setCell 1 (.int .i64 (P2 : Int))).setCell 2 (.int .i64 0))); clear hb hd2; obtain ⟨a0, a1, a2, az⟩ := three HR1.out.r; have az0 := az 0; have az1 := az 1; have az2 := az 2; clear az; obtain ⟨b0, b1, b2, bz⟩ := three HR2.out.r; have bz0 := bz 0; have bz1 := bz 1; have bz2 := bz 2; clear bz; obtain ⟨c0, c1, c2, cz⟩ := three HR2.out.o; have cz0 := cz 0; have cz1 := cz 1; have cz2 := cz 2; clear cz))
          | (go_at_call 66; have hcall := has_any (cc := cn) nm HN2.out HL.out; rw [HC.out] at hcall; (with_reducible refine hcall.mono ?_); clear hcall; rintro e w3 ⟨rfl, hw3⟩; have hw4 := hw3.symm; subst hw4; clear hw3)
          | (go_at_call 32; have hcall := rblanks_any s P2 0 hP2 HS4.out (((w1.setCell ⟨w.heap.size, 0, none⟩ (.string s)).setCell ⟨w.heap.size, 1, none⟩ (.int .i64 (P2 : Int))).setCell ⟨w.heap.size, 2, none⟩ (.int .i64 0)); (with_reducible refine hcall.mono ?_); clear hcall; rintro e w4 ⟨P3, _, hP3, hd3, rfl, hb⟩; have HR3 := hid (HR2.out.below hb); have HD3 := hid (show s.data.toList.drop P3 = blanks u from by rw [hd3, HD2.out]); clear hb hd3)
          | (go_at_call 36; have hcall : Calls Tryz.prog 36 #[.agg #[.string s, .int .i64 (P3 : Int), .int .i64 0], .string ⟨#[58]⟩] w4 _ := rword_any s P3 [58] hP3 HS4.out (by decide) (by decide) _; rw [HD3.out, HWd.out] at hcall; (with_reducible refine hcall.mono ?_); clear hcall; rintro e w5 ⟨P4, hP4, hd4, rfl, hb⟩; have HD4 := hid hd4; have HR4 := hid (HR3.out.below hb); clear hb hd4; obtain ⟨y0, y1, y2, yz⟩ := three HR4.out.o; have yz0 := yz 0; have yz1 := yz 1; have yz2 := yz 2; clear yz))
        (try simp only [Exit.inBlock, Exit.then])
        refine bodyPost_ret (results_rdtmp rfl _ _ _ 49 _ (0, 0) rfl (three_put (has_three HR4.out.o) _ _ _) rfl) rfl ?_
        exact ⟨P4, 0, nm, hP4, rfl, HR4.out.out _ _ _, .inl ⟨rfl, by rw [HD4.out]; exact HN.out⟩⟩
end Go.Proofs.YtkoeihliaandeaaGreatDoor
