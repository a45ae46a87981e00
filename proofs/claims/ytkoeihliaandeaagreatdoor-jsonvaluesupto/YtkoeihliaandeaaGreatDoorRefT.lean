/- The document's reading: a text in quotation marks. -/
import Derived.Test.YtkoeihliaandeaaGreatDoorRefX
import Derived.Laws.AppendOwnNone
import Derived.Lib.AppendStr
namespace Go.Proofs.YtkoeihliaandeaaGreatDoor
open Go.RowKit

theorem Own.keep {w w' : World} {base : Nat} {v : Value} {acc : B} (h : Own w base v acc) (hb : Below w.heap.size w w') : Own w' base v acc :=
  World.ownsRow.kept h (row := none) ⟨hb.os, hb.tape, hb.output, hb.size, fun k hk _ => hb.block k hk⟩ (by
    rcases v.ownBlock with _ | g
    · exact .inl rfl
    · exact .inr (by simp))
theorem Own.turn {w w' : World} {base b : Nat} {v : Value} {acc : B} (h : Own w base v acc) (ht : Turn b w w') (hb : b < base) : Own w' base v acc :=
  World.ownsRow.kept h ht.toGrown (by
    rcases ho : v.ownBlock with _ | g
    · exact .inl rfl
    · right
      rcases h.2 with ⟨rfl, _⟩ | ⟨g', cap, cur, rfl, hg', _⟩
      · simp [Value.ownBlock] at ho
      · simp [Value.ownBlock] at ho
        subst ho
        simp
        omega)
theorem RW2.keep {w W V : World} {s : ByteArray} {p k : Int} (h : RW2 w W s p k) (hb : Below (w.heap.size + 2) W V) : RW2 w V s p k :=
  ⟨(hb.block _ (by omega)).trans h.r, (hb.block _ (by omega)).trans h.o, h.low.trans (hb.mono (by omega))⟩
theorem RW2.le {w W : World} {s : ByteArray} {p k : Int} (h : RW2 w W s p k) : w.heap.size + 2 ≤ W.heap.size := lt_of_heap h.o
/-- A reading and the bytes of a text so far. -/
structure TX (w W : World) (s : ByteArray) (p k : Int) (acc : B) (v : Value) : Prop where
  rw : RW2 w W s p k
  own : Own W (w.heap.size + 2) v acc
theorem TX.below {w W V : World} {s : ByteArray} {p k : Int} {acc : B} {v : Value} (h : TX w W s p k acc v) (hb : Below W.heap.size W V) : TX w V s p k acc v := ⟨h.rw.below hb, h.own.keep hb⟩
theorem TX.move {w W : World} {s : ByteArray} {p k : Int} {acc : B} {v : Value} (h : TX w W s p k acc v) (q z : Int) (hz : z = q) : TX w (W.setCell ⟨w.heap.size, 1, none⟩ (.int .i64 z)) s q k acc v :=
  ⟨h.rw.move q z hz, h.own.turn ((Turn.refl w.heap.size W).setCell _ _) (by omega)⟩
theorem TX.put {w W : World} {s : ByteArray} {p k : Int} {acc : B} {v : Value} (h : TX w W s p k acc v) (s' : ByteArray) (q j : Int) : TX w (((W.setCell ⟨w.heap.size, 0, none⟩ (.string s')).setCell ⟨w.heap.size, 1, none⟩ (.int .i64 q)).setCell ⟨w.heap.size, 2, none⟩ (.int .i64 j)) s' q j acc v :=
  ⟨h.rw.put s' q j, h.own.turn ((((Turn.refl w.heap.size W).setCell _ _).setCell _ _).setCell _ _) (by omega)⟩
theorem TX.app {w W V : World} {s : ByteArray} {p k : Int} {acc acc' : B} {v v' : Value} (h : TX w W s p k acc v) (hg : W.grownBy V v.ownBlock) (ho : Own V (w.heap.size + 2) v' acc') : TX w V s p k acc' v' :=
  ⟨h.rw.keep (Own.below h.own h.rw.le hg), ho⟩
def textQ (l : B) : Res B := if nx l = 34 then text l else .err 3 l
def ToldRt (s : ByteArray) (r : Res B) (w : World) (e : Ending) (w' : World) : Prop := match r with
  | .ok bs u => ∃ P : Nat, P ≤ s.size ∧ s.data.toList.drop P = u ∧ e = .returned (.tuple #[.agg #[.string s, .int .i64 (P : Int), .int .i64 0], .string (str bs)]) ∧ Below w.heap.size w w'
  | .err k u => ∃ P : Nat, P ≤ s.size ∧ s.data.toList.drop P = u ∧ e = .returned (.tuple #[.agg #[.string s, .int .i64 (P : Int), .int .i64 (k : Int)], .string ⟨#[]⟩]) ∧ Below w.heap.size w w'
theorem rune_cells (n : Nat) : Lib.byteCells (Lib.encodeRune (n : Int)) = Lib.runeCells (n : Int) := Lib.byteCells_encodeRune _
theorem rune_len (n : Nat) : (Lib.encodeRune (n : Int)).length = (Lib.runeCells (n : Int)).length := by
  unfold Lib.encodeRune Lib.runeCells
  simp
theorem rune_one (n : Nat) : ∀ u ∈ Lib.runeCells (n : Int), u.oneCell' = true := by
  intro u hu
  unfold Lib.runeCells at hu
  obtain ⟨z, _, rfl⟩ := List.mem_map.1 hu
  rfl
theorem cells_at {w : World} {g : Nat} {news : List Value} {T : TypeId} (h : w.heap[g]? = some (.cells news.toArray T (0, 0))) : ∀ j u, news[j]? = some u → w.cell? ((⟨g, 0, none⟩ : Addr).add j) = some u := by
  intro j u hj
  rw [add_off]
  simp only [World.cell?, h]
  simpa using hj
theorem ext_cells (s : ByteArray) (P n : Nat) : Lib.strCells (s.extract P (P + n)) = Lib.byteCells ((s.data.toList.drop P).take n) := by
  rw [← strCells_str]
  congr 1
  symm
  apply str_of
  rw [ext_list, show P + n - P = n by omega]
theorem uni_le (l : B) (h : l ≠ []) (h0 : (uni l).1 = 0) : (uni l).2 ≤ l.length := (uni_broken l h h0).2.2
theorem char_rest (c : UInt8) (t : B) (h : 32 ≤ c.toNat) (h2 : c ≠ 92) : char (c :: t) = if (uni (c :: t)).1 = 0 then .err 3 ((c :: t).drop (uni (c :: t)).2) else .ok ((c :: t).take (uni (c :: t)).1) ((c :: t).drop (uni (c :: t)).1) := by
  simp only [char]
  rw [if_neg (by omega), if_neg h2]
theorem char_back (t : B) : char (92 :: t) = match escape t with
    | .err k u => .err k u
    | .ok r u => .ok (Lib.encodeRune r) u := rfl
theorem chars_err1 {f k : Nat} {l u : B} (hn : nx l ≠ 34) (h : char l = .err k u) : chars (f + 1) l = .err k u := by
  simp only [chars]
  rw [if_neg hn, h]
theorem chars_ok1 {f : Nat} {l u bs acc : B} (hn : nx l ≠ 34) (h : char l = .ok bs u) : join acc (chars (f + 1) l) = join (acc ++ bs) (chars f u) := by
  simp only [chars]
  rw [if_neg hn, h]
  simp only
  cases chars f u <;> simp [join]
structure St2 (w U : World) (s : ByteArray) (P : Int) (acc : B) (v : Value) : Prop where
  r : U.heap[w.heap.size]? = some (.cells #[.string s, .int .i64 P, .int .i64 0] 49 (0, 0))
  own : Own U (w.heap.size + 2) v acc
theorem TX.st {w U : World} {s : ByteArray} {P : Int} {acc : B} {v : Value} (h : TX w U s P 0 acc v) : St2 w U s P acc v := ⟨h.rw.r, h.own⟩
theorem St2.out {w U : World} {s : ByteArray} {P : Int} {acc : B} {v : Value} (h : St2 w U s P acc v) (a0 a1 a2 : Value) : St2 w (((U.setCell ⟨w.heap.size + 1, 0, none⟩ a0).setCell ⟨w.heap.size + 1, 1, none⟩ a1).setCell ⟨w.heap.size + 1, 2, none⟩ a2) s P acc v :=
  ⟨(three_other (by omega) _ _ _).trans h.r, h.own.turn ((((Turn.refl (w.heap.size + 1) U).setCell _ _).setCell _ _).setCell _ _) (by omega)⟩
set_option maxRecDepth 20000 in
set_option maxHeartbeats 8000000 in
theorem rtext_any (s : ByteArray) (p : Nat) (y : Int) (hy : y = (p : Int)) (hp : p ≤ s.size) (hs : s.size ≤ 1048576) (w : World) : Calls Tryz.prog 35 #[.agg #[.string s, .int .i64 y, .int .i64 0]] w fun e w' => ToldRt s (textQ (s.data.toList.drop p)) w e w' := by
  subst hy
  obtain ⟨i0, hi0, hz0, hz1, hz2⟩ := info_parts infoB
  obtain ⟨T, hT⟩ : ∃ T, textQ (s.data.toList.drop p) = T := ⟨_, rfl⟩
  rw [hT]
  have HT := hid hT
  have HZ := hid hp
  have HS := hid (show s.size ≤ 140737488355328 by omega)
  have HS2 := hid hs
  obtain ⟨W0, hW0⟩ : ∃ W0, W0 = (w.alloc (.cells #[.string s, .int .i64 (p : Int), .int .i64 0] 49 (0, 0))).alloc (.cells #[.string ⟨#[]⟩, .int .i64 0, .int .i64 0] 49 (0, 0)) := ⟨_, rfl⟩
  have HW0 := hid hW0
  have HR0 := hid (RW2.start hW0)
  have HWd := hid (rword_any s p [34] hp HS.out (by decide) (by decide) W0)
  obtain ⟨k0, P0, hP0, hwd, hTa⟩ : ∃ (k0 P0 : Nat), P0 ≤ s.size ∧ (Calls Tryz.prog 36 #[.agg #[.string s, .int .i64 (p : Int), .int .i64 0], .string ⟨#[34]⟩] W0 fun e w' => e = .returned (.agg #[.string s, .int .i64 (P0 : Int), .int .i64 (k0 : Int)]) ∧ Below W0.heap.size W0 w') ∧ (k0 = 0 → join [] (chars (s.size - P0 + 1) (s.data.toList.drop P0)) = T) ∧ (k0 ≠ 0 → T = .err k0 (s.data.toList.drop P0)) := by
    by_cases h34 : nx (s.data.toList.drop p) = 34
    · obtain ⟨hlt, hd⟩ := drop_nx (s := s) (P := p) (by rw [h34]; decide)
      rw [h34] at hd
      refine ⟨0, p + 1, hlt, ?_, fun _ => ?_, fun h => absurd rfl h⟩
      · have h := HWd.out
        rw [hd, show word [34] (34 :: s.data.toList.drop (p + 1)) = .ok () (s.data.toList.drop (p + 1)) from rfl] at h
        refine h.mono ?_
        rintro e w' ⟨P, h1, h2, h3, h4⟩
        obtain rfl := place_eq h1 (show p + 1 ≤ s.size from hlt) h2
        exact ⟨h3, h4⟩
      · rw [join_nil, ← HT.out]
        unfold textQ text
        rw [if_pos h34, drop_one, List.length_drop]
        congr 1
        have : s.data.toList.length = s.size := rfl
        omega
    · refine ⟨3, p, hp, ?_, fun h => by omega, fun _ => ?_⟩
      · have h := HWd.out
        rw [word_stop h34] at h
        refine h.mono ?_
        rintro e w' ⟨P, h1, h2, h3, h4⟩
        obtain rfl := place_eq h1 hp h2
        exact ⟨h3, h4⟩
      · rw [← HT.out]
        unfold textQ
        rw [if_neg h34]
  have HWd2 := hid hwd
  have HTa := hid hTa
  clear hW0 hT HWd hwd hTa
  go_enter Tryz.func35, Tryz.ntmps35
  go_wp2_with (go_at_call 36; have hcall := HWd2.out; rw [HW0.out] at hcall; (with_reducible refine hcall.mono ?_); clear hcall; rintro e w1 ⟨rfl, hb⟩; rw [← HW0.out] at hb; have HR1 := hid (HR0.out.below hb); clear hb; obtain ⟨x0, x1, x2, xz⟩ := three HR1.out.r; have xz0 := xz 0; have xz1 := xz 1; have xz2 := xz 2; clear xz)
  go_loopg [4] (s.size - P0 + 1) (fun gk s4 wr => ∃ (P k : Nat) (acc : B), P ≤ s.size ∧ (k = 0 → s.size - P < gk ∧ acc.length + 4 * (s.size - P) ≤ 4 * s.size ∧ join acc (chars gk (s.data.toList.drop P)) = T) ∧ (k ≠ 0 → T = .err k (s.data.toList.drop P)) ∧ TX w wr s (P : Int) (k : Int) acc s4)
  case atStart => exact ⟨P0, k0, [], hP0, fun h => ⟨by omega, by simp; omega, HTa.out.1 h⟩, HTa.out.2, HR1.out.put _ _ _, ⟨rfl, .inl ⟨rfl, rfl⟩⟩⟩
  case round =>
    obtain ⟨P, k, acc, h2, hT0, hT1, hX⟩ := hrel
    have HX := hid hX
    have HZ2 := hid h2
    obtain ⟨x0, x1, x2, xz⟩ := three hX.rw.r
    have xz0 := xz 0; have xz1 := xz 1; have xz2 := xz 2
    obtain ⟨v0, v1, rfl⟩ := own_slice hX.own
    clear hX xz x0 x1 x2
    obtain ⟨x0, x1, x2, _⟩ := three HX.out.rw.r
    by_cases hk : k = 0
    case neg =>
      have HN := hid (hT1 hk)
      have q1 : ((k : Int) == 0) = false := by simp only [beq_eq_false_iff_ne, ne_eq]; omega
      obtain ⟨y0, y1, y2, yz⟩ := three HX.out.rw.o
      have yz0 := yz 0; have yz1 := yz 1; have yz2 := yz 2
      clear hT0 hT1 hk yz
      go_wp2
      (try simp only [Exit.inBlock, Exit.then])
      refine bodyPost_ret (results_rdtmp rfl _ _ _ 49 _ (0, 0) rfl (three_put (has_three HX.out.rw.o) _ _ _) rfl) rfl ?_
      rw [HN.out]
      exact ⟨P, HZ2.out, rfl, rfl, HX.out.rw.out _ _ _⟩
    subst hk
    obtain ⟨hgk, hacc, hj⟩ := hT0 rfl
    have HJ := hid hj
    have HAc := hid hacc
    clear hT0 hT1 hj
    cases gk with
    | zero => omega
    | succ f =>
      obtain ⟨la, hla⟩ : ∃ la, acc.length = la := ⟨_, rfl⟩
      have HLa := hid hla
      rw [hla] at hacc
      by_cases hin : P < s.size
      case neg =>
        have b1 : (s.size : Int) ≤ (P : Int) := by omega
        have HN := hid (show T = .err 3 (s.data.toList.drop P) from by
          rw [← HJ.out, List.drop_of_length_le (show s.data.toList.length ≤ P from by show s.size ≤ P; omega)]
          rfl)
        clear hla
        go_wp2_with (go_at_call 20; (with_reducible refine (rfail_any s (P : Int) (P : Int) 3 _).mono ?_); rintro e wf ⟨rfl, hb⟩; have HRf := hid (HX.out.below hb); clear hb; obtain ⟨y0, y1, y2, yz⟩ := three HRf.out.rw.o; have yz0 := yz 0; have yz1 := yz 1; have yz2 := yz 2; clear yz)
        (try simp only [Exit.inBlock, Exit.then])
        refine bodyPost_ret (results_rdtmp rfl _ _ _ 49 _ (0, 0) rfl (three_put (has_three HRf.out.rw.o) _ _ _) rfl) rfl ?_
        rw [HN.out]
        exact ⟨P, HZ2.out, rfl, rfl, HRf.out.rw.out _ _ _⟩
      have b1 : ¬ (s.size : Int) ≤ (P : Int) := by omega
      obtain ⟨c, t, hd, ht⟩ := drop_cons hin
      obtain ⟨_, hc⟩ := byte_at hd
      obtain ⟨X, hX⟩ : ∃ X : Nat, c.toNat = X := ⟨_, rfl⟩
      have hb : ∀ h : P < s.size, (s[P]'h).toNat = X := fun h => by rw [hc, hX]
      have HD := hid hd
      have HDt := hid ht
      clear hc hd ht hla
      by_cases h32 : X < 32
      · have a1 : (X : Int) < 32 := by omega
        have HN := hid (show T = .err 3 (s.data.toList.drop P) from by
          rw [← HJ.out, chars_err1 (by rw [HD.out]; intro e; have e2 : c = 34 := e; rw [e2] at hX; simp at hX; omega) (show char (s.data.toList.drop P) = .err 3 (s.data.toList.drop P) from by rw [HD.out]; simp only [char]; rw [if_pos (by omega)])]
          rfl)
        clear h32
        go_wp2_with (go_at_call 20; (with_reducible refine (rfail_any s (P : Int) (P : Int) 3 _).mono ?_); rintro e wf ⟨rfl, hb⟩; have HRf := hid (HX.out.below hb); clear hb; obtain ⟨y0, y1, y2, yz⟩ := three HRf.out.rw.o; have yz0 := yz 0; have yz1 := yz 1; have yz2 := yz 2; clear yz)
        (try simp only [Exit.inBlock, Exit.then])
        refine bodyPost_ret (results_rdtmp rfl _ _ _ 49 _ (0, 0) rfl (three_put (has_three HRf.out.rw.o) _ _ _) rfl) rfl ?_
        rw [HN.out]
        exact ⟨P, HZ2.out, rfl, rfl, HRf.out.rw.out _ _ _⟩
      have a1 : ¬ (X : Int) < 32 := by omega
      by_cases h34 : X = 34
      · subst h34
        have HN := hid (show T = .ok acc (s.data.toList.drop (P + 1)) from by
          rw [← HJ.out, HD.out, HDt.out]
          have e : c = 34 := UInt8.toNat_inj.1 hX
          subst e
          simp [chars, nx, join])
        have HM := hid (HX.out.move ((P : Int) + 1) _ rfl)
        clear h32 hX
        go_wp2
        refine wp_region_noPanic ?_
        refine any_begin 5 (by kernel_rfl) (by kernel_rfl) ?_
        refine late_begin (fun U => St2 w U s ((P : Int) + 1) acc (.slice v0 acc.length v1)) (fun _ => false) (HM.out.below (below_drew (Below.refl _ _) 1)).st (fun hS => ?_)
        have HMV := hid (show TX w (wr.setCell ⟨w.heap.size, 1, none⟩ (.int .i64 ((P : Int) + 1))).drew s ((P : Int) + 1) 0 acc (.slice v0 acc.length v1) from HM.out.below (below_drew (Below.refl _ _) 1))
        generalize (wr.setCell ⟨w.heap.size, 1, none⟩ (.int .i64 ((P : Int) + 1))).drew = V at hS HMV ⊢
        obtain ⟨y0, y1, y2, yz⟩ := three HMV.out.rw.o; have yz0 := yz 0; have yz1 := yz 1; have yz2 := yz 2; clear yz
        refine late_take (i := 0) (some 44) rfl rfl (by kernel_rfl) (by kernel_rfl) (by kernel_rfl) (by kernel_rfl) (by kernel_rfl) (fun _ _ _ h => h) (by rfl) (v := ?v0a) ?hy0a hS ?rest0a
        case hy0a => intro w0 hSw; obtain ⟨k0, k1, k2, _⟩ := three hSw.r; have hcv := conv_own (World.ownsRowF_of hSw.own); go_simp; try with_reducible rfl
        simp only [Act.put, List.setIfInBounds_toArray, List.set_cons_zero, List.set_cons_succ]
        refine late_take (i := 1) (some 45) rfl rfl (by kernel_rfl) (by kernel_rfl) (by kernel_rfl) (by kernel_rfl) (by kernel_rfl) (fun _ _ _ h => h) (by rfl) (v := ?v1a) ?hy1a hS ?rest1a
        case hy1a => intro w0 hSw; obtain ⟨k0, k1, k2, _⟩ := three hSw.r; have hcv := conv_own (World.ownsRowF_of hSw.own); go_simp; try with_reducible rfl
        simp only [Act.put, List.setIfInBounds_toArray, List.set_cons_zero, List.set_cons_succ]
        refine late_take (i := 2) (some 46) rfl rfl (by kernel_rfl) (by kernel_rfl) (by kernel_rfl) (by kernel_rfl) (by kernel_rfl) (fun _ _ _ h => h) (by rfl) (v := .string (str acc)) ?hy2a hS ?rest2a
        case hy2a => intro w0 hSw; obtain ⟨k0, k1, k2, _⟩ := three hSw.r; have hcv := conv_own (World.ownsRowF_of hSw.own); go_simp; try with_reducible rfl
        simp only [Act.put, List.setIfInBounds_toArray, List.set_cons_zero, List.set_cons_succ]
        refine wpAnyD_one (i := 3) (by kernel_rfl) rfl (fun K hK => ?_)
        go_simp
        refine hK _ _ ⟨fun _ => hS.out _ _ _, ?_⟩
        clear hK K
        refine wpAnyD_one (i := 4) (by kernel_rfl) rfl (fun K hK => ?_)
        go_simp
        refine hK _ _ ⟨fun _ => hS.out _ _ _, ?_⟩
        clear hK K
        refine late_done (by kernel_rfl) ?_ _
        refine NoPanic.normal ?_
        clear hS
        go_wp2
        (try simp only [Exit.inBlock, Exit.then])
        refine bodyPost_ret (results_rdtmp rfl _ _ _ 49 _ (0, 0) rfl (three_put (has_three HMV.out.rw.o) _ _ _) rfl) rfl ?_
        rw [HN.out]
        exact ⟨P + 1, by omega, rfl, by push_cast; rfl, HMV.out.rw.out _ _ _⟩
      have a2 : ((X : Int) == 34) = false := by simp only [beq_eq_false_iff_ne, ne_eq]; omega
      have hn34 : nx (s.data.toList.drop P) ≠ 34 := by
        rw [HD.out]
        intro e
        have e2 : c = 34 := e
        rw [e2] at hX
        exact h34 hX.symm
      by_cases h92 : X = 92
      · subst h92
        have e92 : c = 92 := UInt8.toNat_inj.1 hX
        have HM := hid (HX.out.move ((P : Int) + 1) _ rfl)
        have HP1 := hid (show P + 1 ≤ s.size from hin)
        cases hes : escape (s.data.toList.drop (P + 1)) with
        | err k u =>
          have hk := escape_err hes
          have HEs := hid hes
          have HN := hid (show T = .err k u from by
            rw [← HJ.out, chars_err1 hn34 (show char (s.data.toList.drop P) = .err k u from by rw [HD.out, e92, char_back, ← HDt.out, hes])]
            rfl)
          clear h32 h34 hX hes hn34 e92
          go_wp2_with (first
            | (go_at_call 57; have hcall := rescape_any s (P + 1) ((P : Int) + 1) (by push_cast; rfl) HP1.out HS.out (wr.setCell ⟨w.heap.size, 1, none⟩ (.int .i64 ((P : Int) + 1))); rw [HEs.out] at hcall; (with_reducible refine hcall.mono ?_); clear hcall; rintro e w1 ⟨P2, hP2, hd2, rfl, hb⟩; have HD2 := hid hd2; have HM1 := hid (HM.out.below hb); have HM2 := hid (HM1.out.below (below_new w1 (.cells #[.string s, .int .i64 (P2 : Int), .int .i64 (k : Int)] 49 (0, 0)))); have HM3 := hid (HM2.out.put s (P2 : Int) (k : Int)); clear hb hd2; obtain ⟨z0, z1, z2, zz⟩ := three HM2.out.rw.r; have zz0 := zz 0; have zz1 := zz 1; have zz2 := zz 2; clear zz)
            | (at_builtin; refine wpList_append_own_none rfl (.tmp 64) (.tmp 65) 55 rfl (w.heap.size + 2) 5 i0 1 Tryz.underlying55 hi0 (.slice v0 acc.length v1) acc.length (Lib.byteCells acc) (by go_simp) HM3.out.own (by go_simp) ?_))
          go_roundg f
          case measure => omega
          case rel => exact ⟨P2, k, acc, hP2, fun h => absurd h hk, fun _ => by rw [HD2.out]; exact HN.out, HM3.out⟩
        | ok n u =>
          have HEs := hid hes
          have hsh := escape_short hes
          have hch : char (s.data.toList.drop P) = .ok (Lib.encodeRune (n : Int)) u := by rw [HD.out, e92, char_back, ← HDt.out, hes]
          have HN := hid (show join (acc ++ Lib.encodeRune (n : Int)) (chars f u) = T from by rw [← HJ.out]; exact (chars_ok1 hn34 hch).symm)
          have hul : u.length ≤ s.size - (P + 1) := by
            have e : (s.data.toList.drop (P + 1)).length = s.size - (P + 1) := by rw [List.length_drop]; rfl
            omega
          have h4 := encode_len (n : Int)
          obtain ⟨L, hL⟩ : ∃ L, (Lib.runeCells (n : Int)).length = L := ⟨_, rfl⟩
          have HL := hid hL
          have hL4 : L ≤ 4 := by rw [← hL, ← rune_len]; exact h4
          clear h32 h34 hX hes hn34 e92 hch hL
          go_wp2_with (first
            | (go_at_call 57; have hcall := rescape_any s (P + 1) ((P : Int) + 1) (by push_cast; rfl) HP1.out HS.out (wr.setCell ⟨w.heap.size, 1, none⟩ (.int .i64 ((P : Int) + 1))); rw [HEs.out] at hcall; (with_reducible refine hcall.mono ?_); clear hcall; rintro e w1 ⟨P2, g, hP2, hd2, rfl, hg, hb⟩; rw [HL.out]; have HD2 := hid hd2; have HM1 := hid (HM.out.below hb); have HM2 := hid (HM1.out.below (below_new w1 (.cells #[.string s, .int .i64 (P2 : Int), .int .i64 0] 49 (0, 0)))); have HM3 := hid (HM2.out.put s (P2 : Int) 0); have HG := hid ((three_other (show g ≠ w.heap.size from fun e => by subst e; have h7 := (HM1.out.rw.r).symm.trans hg; simp at h7) (.string s) (.int .i64 (P2 : Int)) (.int .i64 0)).trans (((below_new w1 (.cells #[.string s, .int .i64 (P2 : Int), .int .i64 0] 49 (0, 0))).block g (lt_of_heap hg)).trans hg)); clear hb hd2 hg; obtain ⟨z0, z1, z2, zz⟩ := three HM2.out.rw.r; have zz0 := zz 0; have zz1 := zz 1; have zz2 := zz 2; clear zz)
            | (at_builtin; refine wpList_append_own_at _ rfl (.tmp 64) (.tmp 65) 55 rfl (w.heap.size + 2) 5 i0 _ 1 1 Tryz.underlying55 hi0 hz0 hz1 hz2 rfl (by decide) (.slice v0 acc.length v1) acc.length (Lib.byteCells acc) (by go_simp) HM3.out.own ⟨g, 0, none⟩ L L (Lib.runeCells (n : Int)) (by go_simp) (by rw [HL.out, Nat.mul_one]) (cells_at HG.out) (rune_one n) (by have := HAc.out; unfold maxLen; omega) (by have := HAc.out; omega) HM3.out.rw.le ?_; intro v' w' hown hgr _ _; obtain ⟨p7, L7, c7, rfl⟩ := own_slice3 hown; have HM4 := hid (HM3.out.app hgr (Own.put (bs := Lib.encodeRune (n : Int)) hown (rune_cells n) (by rw [rune_len, HL.out]))); clear hown hgr))
          go_roundg f
          case measure => omega
          case rel =>
            have hP2l : u.length = s.size - P2 := by rw [← HD2.out, List.length_drop]; rfl
            refine ⟨P2, 0, acc ++ Lib.encodeRune (n : Int), hP2, fun _ => ⟨by omega, ?_, by rw [HD2.out]; exact HN.out⟩, fun h => absurd rfl h, HM4.out⟩
            rw [List.length_append]
            have := HAc.out
            omega
      have a3 : ((X : Int) == 92) = false := by simp only [beq_eq_false_iff_ne, ne_eq]; omega
      have e92 : c ≠ 92 := fun e => h92 (by rw [← hX, e]; rfl)
      have hch := char_rest c t (by omega) e92
      rw [← HD.out] at hch
      have HRu := hid (rune_any s P hin (by omega))
      obtain ⟨U, hU⟩ : ∃ U, uni (s.data.toList.drop P) = U := ⟨_, rfl⟩
      have hul := uni_le (s.data.toList.drop P) (by rw [HD.out]; simp)
      have hua := uni_app (s.data.toList.drop P)
      have hlen : (s.data.toList.drop P).length = s.size - P := by rw [List.length_drop]; rfl
      rw [hU] at hch hul hua
      rw [hU] at HRu
      obtain ⟨u1, u2⟩ := U
      simp only at hch hul hua HRu
      by_cases h0 : u1 = 0
      · subst h0
        rw [if_pos rfl] at hch
        have HN := hid (show T = .err 3 (s.data.toList.drop (P + u2)) from by
          rw [← HJ.out, chars_err1 hn34 hch, List.drop_drop]
          rfl)
        have hu2 : P + u2 ≤ s.size := by
          have := hul rfl
          omega
        obtain ⟨Bd, hBd⟩ : ∃ Bd : Int, ((P + u2 : Nat) : Int) = Bd := ⟨_, rfl⟩
        have HBd := hid hBd
        have HRu2 := HRu.out
        rw [if_pos rfl, hBd] at HRu2
        replace HRu := hid HRu2
        clear h32 h34 h92 hX hn34 e92 hch hul hua hU hlen HRu2 hBd
        go_wp2_with (first
          | (go_at_call 58; have hcall := HRu.out wr; (with_reducible refine hcall.mono ?_); clear hcall; rintro e w1 ⟨rfl, hw1⟩; have hw2 := hw1.symm; subst hw2; clear hw1)
          | (go_at_call 20; (with_reducible refine (rfail_any s (P : Int) Bd 3 _).mono ?_); rintro e wf ⟨rfl, hb⟩; have HRf := hid (HX.out.below hb); clear hb; obtain ⟨y0, y1, y2, yz⟩ := three HRf.out.rw.o; have yz0 := yz 0; have yz1 := yz 1; have yz2 := yz 2; clear yz))
        (try simp only [Exit.inBlock, Exit.then])
        refine bodyPost_ret (results_rdtmp rfl _ _ _ 49 _ (0, 0) rfl (three_put (has_three HRf.out.rw.o) _ _ _) rfl) rfl ?_
        rw [HN.out]
        exact ⟨P + u2, hu2, rfl, by rw [HBd.out]; rfl, HRf.out.rw.out _ _ _⟩
      · rw [if_neg h0] at hch
        have HRu2 := HRu.out
        rw [if_neg h0] at HRu2
        have HRu3 := hid HRu2
        obtain ⟨_, _, _, hle, _, _⟩ := hua h0
        have hu1 : P + u1 ≤ s.size := by omega
        have HN := hid (show join (acc ++ (s.data.toList.drop P).take u1) (chars f (s.data.toList.drop (P + u1))) = T from by
          rw [← HJ.out, chars_ok1 hn34 hch, List.drop_drop])
        have hu4 : u1 ≤ 4 := by
          have := (char_short hch).2
          rw [List.length_take] at this
          omega
        have q0 : ((u1 : Int) == 0) = false := by simp only [beq_eq_false_iff_ne, ne_eq]; omega
        have HEs := hid (show (s.extract P (P + u1)).size = u1 from by show (s.extract P (P + u1)).data.toList.length = u1; rw [ext_list, List.length_take]; omega)
        have HTl := hid (show ((s.data.toList.drop P).take u1).length = u1 from by rw [List.length_take]; omega)
        obtain ⟨E, hE⟩ : ∃ E, s.extract P (P + u1) = E := ⟨_, rfl⟩
        have HEx := hid hE
        have HEc := hid (show Lib.byteCells ((s.data.toList.drop P).take u1) = Lib.strCells E from by rw [← hE]; exact (ext_cells s P u1).symm)
        rw [hE] at HEs
        have hex : ∀ n : Nat, n = P + u1 → s.extract P n = E := fun n hn => by rw [hn, hE]
        clear h32 h34 h92 hX hn34 e92 hch hul hua hU hlen HRu HRu2 hle hE
        go_wp2_with (first
          | (go_at_call 58; have hcall := HRu3.out wr; (with_reducible refine hcall.mono ?_); clear hcall; rintro e w1 ⟨rfl, hw1⟩; have hw2 := hw1.symm; subst hw2; clear hw1)
          | (at_builtin; refine Lib.wpList_append_own_string _ rfl (.tmp 80) (.tmp 89) 55 9 rfl (w.heap.size + 2) 5 i0 Tryz.underlying55 Tryz.underlying9 hi0 hz0 hz1 hz2 (.slice v0 acc.length v1) acc.length (Lib.byteCells acc) (by go_simp) HX.out.own E (by go_simp) (by rw [HEs.out]; have := HAc.out; unfold maxLen; omega) (by rw [HEs.out]; have := HAc.out; omega) HX.out.rw.le ?_; intro v' w2 hown hgr _; obtain ⟨p7, L7, c7, rfl⟩ := own_slice3 hown; have HM4 := hid (HX.out.app hgr (Own.put (bs := (s.data.toList.drop P).take u1) hown HEc.out (by rw [HTl.out, HEs.out]))); clear hown hgr; obtain ⟨z0, z1, z2, zz⟩ := three HM4.out.rw.r; have zz0 := zz 0; have zz1 := zz 1; have zz2 := zz 2; clear zz))
        go_roundg f
        case measure => omega
        case rel =>
          refine ⟨P + u1, 0, acc ++ (s.data.toList.drop P).take u1, hu1, fun _ => ⟨by omega, ?_, HN.out⟩, fun h => absurd rfl h, HM4.out.move _ _ (by push_cast; rfl)⟩
          rw [List.length_append, HTl.out]
          have := HAc.out
          omega
end Go.Proofs.YtkoeihliaandeaaGreatDoor
