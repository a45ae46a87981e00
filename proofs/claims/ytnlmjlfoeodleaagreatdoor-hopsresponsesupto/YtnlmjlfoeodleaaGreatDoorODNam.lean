/- The names that Connection names, by the program: a row of names and a map of their places. -/
import Derived.Test.YtnlmjlfoeodleaaGreatDoorOSpec
import Derived.Maps.OwnSet
import Derived.StringKeys
import Derived.Test.YtnlmjlfoeodleaaGreatDoorCRList
import Derived.Maps.AppendAt
namespace Go.Proofs.YtnlmjlfoeodleaaGreatDoor
open Go.RowKit Go.Maps

theorem lawP : Keyed Tryz.prog 9 := string_keyed Tryz.underlying9
theorem zeroI (w : World) : (zeroValue 3).run Tryz.prog w = .ok (.int .i64 0) w := by kernel_rfl
def szN (fs : List (B × B)) : Prop := ∀ f ∈ fs, f.1.length ≤ 1048576 ∧ f.2.length ≤ 1048576
/-- Block m is a map whose keys are just these names. -/
def PlAt (w : World) (m : Nat) (ns : List B) : Prop := ∃ (n : Nat) (D : DataW Unit), w.ownsMap Tryz.prog 9 (plainElem Tryz.prog 3) m n D ∧ n ≤ ns.length ∧ ∀ x, Maps.has D (Lit.string x) = ns.contains x
theorem PlAt.blk {w w' : World} {m : Nat} {ns : List B} (h : PlAt w m ns) (hb : w'.heap[m]? = w.heap[m]?) : PlAt w' m ns := by
  obtain ⟨n, D, ⟨es, clock, h1, r⟩, h2⟩ := h
  exact ⟨n, D, ⟨es, clock, hb.trans h1, r⟩, h2⟩
theorem PlAt.lt {w : World} {m : Nat} {ns : List B} (h : PlAt w m ns) : m < w.heap.size := by
  obtain ⟨n, D, h1, _⟩ := h
  exact World.ownsMap.lt h1
theorem PlAt.next {w w' : World} {m : Nat} {ns : List B} (h : PlAt w m ns) (hb : Below w.heap.size w w') : PlAt w' m ns := h.blk (hb.block m h.lt)
theorem PlAt.made (w : World) : PlAt (w.alloc (.map #[] 0)) w.heap.size [] := ⟨0, .map [], World.ownsMap_made w Tryz.prog 9 _, Nat.le_refl _, fun _ => rfl⟩
theorem contains_snoc (ns : List B) (x y : B) : (ns ++ [x]).contains y = (ns.contains y || (y == x)) := by
  induction ns with
  | nil => exact Bool.eq_iff_iff.2 (by simp)
  | cons a l ih => rw [List.cons_append, List.contains_cons, ih, List.contains_cons, Bool.or_assoc]
theorem PlAt.put {w' : World} {m n : Nat} {ns : List B} {D : DataW Unit} {x : B} {d : DataW Unit} (hI : Maps.IsMap D) (hn : n ≤ ns.length) (hh : ∀ y, Maps.has D (Lit.string y) = ns.contains y) (ho : w'.ownsMap Tryz.prog 9 (plainElem Tryz.prog 3) m (n + 1) (D.put (Lit.string x) d)) : PlAt w' m (ns ++ [x]) := by
  refine ⟨n + 1, _, ho, by rw [List.length_append]; exact Nat.succ_le_succ hn, fun y => ?_⟩
  rw [contains_snoc]
  by_cases h : y = x
  · subst h
    rw [Maps.has_put_same hI (by trivial)]
    simp
  · rw [Maps.has_put_other (fun e => h (by injection e)) d, hh y]
    simp [h]
/-- What holds while names are gathered. -/
structure NmS (w W : World) (v : Value) (ns ms : List B) : Prop where
  low : Below w.heap.size w W
  row : OwnS W (w.heap.size + 1) v ns
  pl : PlAt W w.heap.size ms
theorem NmS.next {w W W' : World} {v : Value} {ns ms : List B} (h : NmS w W v ns ms) (hb : Below W.heap.size W W') : NmS w W' v ns ms := ⟨below_out h.low hb, h.row.keep hb, h.pl.next hb⟩
theorem ownS_aside {W W' : World} {b m : Nat} {v : Value} {ns : List B} (h : OwnS W b v ns) (hg : W.grownBy W' (some m)) (hm : m < b) : OwnS W' b v ns := by
  refine ⟨h.1, ?_⟩
  rcases h.2 with h' | ⟨g, cap, cur, e1, e2, e3, e4⟩
  · exact .inl h'
  · exact .inr ⟨g, cap, cur, e1, e2, (hg.block g (lt_of_heap e3) (by simp; omega)).trans e3, e4⟩
theorem NmS.put {w W W' : World} {v : Value} {ns ms ms' : List B} (h : NmS w W v ns ms) (hg : W.grownBy W' (some w.heap.size)) (hp : PlAt W' w.heap.size ms') : NmS w W' v ns ms' :=
  ⟨h.low.trans ⟨hg.os, hg.tape, hg.output, hg.size, fun k hk => hg.block k (Nat.lt_of_lt_of_le hk h.low.size) (by simp; omega)⟩, ownS_aside h.row hg (Nat.lt_succ_self _), hp⟩
theorem NmS.app {w W W' : World} {o : Obj} {v v' : Value} {ns ns' ms : List B} (h : NmS w W v ns ms) (hz : w.heap.size + 1 ≤ W.heap.size) (hg : (W.alloc o).grownBy W' v.ownBlock) (ho : OwnS W' (w.heap.size + 1) v' ns') : NmS w W' v' ns' ms := by
  have hb := app_below' (B := w.heap.size + 1) (Below.refl _ _) hz h.row hg
  exact ⟨h.low.trans (hb.mono (Nat.le_succ _)), ho, h.pl.blk (hb.block _ (Nat.lt_succ_self _))⟩
theorem list_own {W : World} {b : Nat} {v : Value} {x : B} (h : W.ownsRow b 9 1 v (listS (str x)).length ((listS (str x)).map strVL)) : OwnS W b v (listL x) := by
  unfold OwnS
  have e : (listS (str x)).length = (listL x).length := by unfold listS; simp
  have e2 : (listS (str x)).map strVL = strC (listL x) := by
    unfold listS strC
    rw [List.map_map]
    rfl
  rw [← e, ← e2]
  exact h
theorem trimL_le (l : List UInt8) : (trimL l).length ≤ l.length := by
  unfold trimL
  rw [List.length_reverse]
  refine Nat.le_trans (List.dropWhile_suffix _).length_le ?_
  rw [List.length_reverse]
  exact (List.dropWhile_suffix _).length_le
theorem listL_small {x e : B} (h : e ∈ listL x) : e.length ≤ x.length := by
  unfold listL at h
  obtain ⟨h1, _⟩ := List.mem_filter.1 h
  obtain ⟨p, hp, rfl⟩ := List.mem_map.1 h1
  refine Nat.le_trans ?_ (cutL_len x p hp)
  exact trimL_le p
theorem lowB_len (b : B) : (lowB b).length = b.length := by unfold lowB; simp
theorem drop_atL {α : Type} {l : List α} {i : Nat} {x : α} (h : l[i]? = some x) : l.drop i = x :: l.drop (i + 1) := by
  obtain ⟨h1, h2⟩ := List.getElem?_eq_some_iff.1 h
  rw [List.drop_eq_getElem_cons h1, h2]
theorem addN_yes {ns l : List B} {e : B} (h : ns.contains (lowB e) = true) : addN ns (e :: l) = addN ns l := by
  rw [addN, if_pos h]
theorem addN_no {ns l : List B} {e : B} (h : ns.contains (lowB e) = false) : addN ns (e :: l) = addN (ns ++ [lowB e]) l := by
  rw [addN, if_neg (by rw [h]; decide)]
theorem namF_yes {ns : List B} {f : B × B} {l : List (B × B)} (h : isF (str connB) f = true) : namF ns (f :: l) = namF (addN ns (listL f.2)) l := by
  rw [namF, if_pos h]
theorem namF_no {ns : List B} {f : B × B} {l : List (B × B)} (h : isF (str connB) f = false) : namF ns (f :: l) = namF ns l := by
  rw [namF, if_neg (by rw [h]; decide)]
theorem lower_bel (s : B) (w : World) (hs : s.length ≤ 1048576) : Calls Tryz.prog 116 #[.string (str s)] w fun e w' => e = .returned (.string (str (lowB s))) ∧ Below w.heap.size w w' := by
  have h := lower_any (str s) w (by rw [str_size]; unfold maxLen; omega)
  rw [lowS_str] at h
  exact h
theorem wf_i64 {n : Nat} (h : n ≤ 9223372036854775807) : (Lit.int .i64 (n : Int)).wf = true := by
  simp [Lit.wf, IntKind.min, IntKind.max, IntKind.signed, IntKind.bits]
  omega
/-- While the elements w3 made (from w2 on) are gone through: they stay. -/
structure Nm2 (w w2 w3 W : World) (v : Value) (ns ms : List B) : Prop where
  s : NmS w W v ns ms
  kp : ∀ b, w2.heap.size ≤ b → b < w3.heap.size → W.heap[b]? = w3.heap[b]?
  sz : w3.heap.size ≤ W.heap.size
  nb : ∀ b, v.ownBlock = some b → ¬ (w2.heap.size ≤ b ∧ b < w3.heap.size)
  h0 : w.heap.size < w2.heap.size
theorem own_ltS {W : World} {b k : Nat} {v : Value} {ns : List B} (h : OwnS W b v ns) (e : v.ownBlock = some k) : k < W.heap.size := by
  rcases h.2 with ⟨h', _⟩ | ⟨g, cap, cur, e1, e2, e3, e4⟩
  · rw [h'] at e; cases e
  · rw [e1] at e
    obtain rfl : g = k := by simpa [Value.ownBlock] using e
    exact lt_of_heap e3
theorem Nm2.start {w w2 w3 : World} {v : Value} {ns : List B} (h : NmS w w2 v ns ns) (hb : Below w2.heap.size w2 w3) : Nm2 w w2 w3 w3 v ns ns :=
  ⟨h.next hb, fun _ _ _ => rfl, Nat.le_refl _, fun b e hh => by have := own_ltS h.row e; omega, h.pl.lt⟩
theorem Nm2.next {w w2 w3 W W' : World} {v : Value} {ns ms : List B} (h : Nm2 w w2 w3 W v ns ms) (hb : Below W.heap.size W W') : Nm2 w w2 w3 W' v ns ms :=
  ⟨h.s.next hb, fun b h1 h2 => (hb.block b (Nat.lt_of_lt_of_le h2 h.sz)).trans (h.kp b h1 h2), Nat.le_trans h.sz hb.size, h.nb, h.h0⟩
theorem Nm2.put {w w2 w3 W W' : World} {v : Value} {ns ms ms' : List B} (h : Nm2 w w2 w3 W v ns ms) (hg : W.grownBy W' (some w.heap.size)) (hp : PlAt W' w.heap.size ms') : Nm2 w w2 w3 W' v ns ms' :=
  ⟨h.s.put hg hp, fun b h1 h2 => (hg.block b (Nat.lt_of_lt_of_le h2 h.sz) (by have := h.h0; simp; omega)).trans (h.kp b h1 h2), Nat.le_trans h.sz hg.size, h.nb, h.h0⟩
theorem Nm2.app {w w2 w3 W W' : World} {o : Obj} {v v' : Value} {ns ns' ms : List B} (h : Nm2 w w2 w3 W v ns ms) (hg : (W.alloc o).grownBy W' v.ownBlock) (ho : OwnS W' (w.heap.size + 1) v' ns') (hv : v'.ownBlock = v.ownBlock ∨ v'.ownBlock = some (W.alloc o).heap.size) : Nm2 w w2 w3 W' v' ns' ms := by
  have hz : W.heap.size < (W.alloc o).heap.size := by simp
  refine ⟨h.s.app (Nat.succ_le_of_lt h.s.pl.lt) hg ho, fun b h1 h2 => ?_, Nat.le_trans h.sz (Nat.le_trans (Nat.le_of_lt hz) hg.size), fun b e => ?_, h.h0⟩
  · have h3 := Nat.lt_of_lt_of_le h2 h.sz
    refine (hg.block b (Nat.lt_trans h3 hz) (fun e => h.nb b e.symm ⟨h1, h2⟩)).trans (((below_new W o).block b h3).trans (h.kp b h1 h2))
  · rcases hv with h5 | h5
    · exact h.nb b (by rw [← h5]; exact e)
    · rw [h5] at e
      obtain rfl := Option.some.inj e
      have := h.sz
      omega
theorem row_at {w2 w3 W : World} {n d j : Nat} {q : Option Addr} {J : List B} {y : B} (h : OwnS w3 w2.heap.size (.slice q n d) J) (hk : ∀ b, w2.heap.size ≤ b → b < w3.heap.size → W.heap[b]? = w3.heap[b]?) (hj : J[j]? = some y) : ∃ g o, q = some ⟨g, o, none⟩ ∧ W.cell? ⟨g, o + j, none⟩ = some (.string (str y)) := by
  obtain ⟨g, o, rfl, hc⟩ := h.at hj
  refine ⟨g, o, rfl, ?_⟩
  have hg : w2.heap.size ≤ g := by
    rcases h.2 with ⟨h', _⟩ | ⟨g', cap, cur, e1, e2, e3, e4⟩
    · cases h'
    · injection e1 with e5
      injection e5 with e6
      injection e6 with e7
      omega
  have e := hk g hg (lt_of_cell hc)
  unfold World.cell? at hc ⊢
  dsimp only at hc ⊢
  rw [e]
  exact hc
theorem bd_next {k i C : Nat} (h : k ≤ i * C) : k ≤ (i + 1) * C := Nat.le_trans h (Nat.mul_le_mul_right _ (Nat.le_succ i))
theorem bd_out {k i j C : Nat} (h : k ≤ i * C + j) (hj : j ≤ C) : k ≤ (i + 1) * C := by rw [Nat.succ_mul]; omega
theorem bd_most {k i j n C : Nat} (h : k ≤ i * C + j) (hi : i < n) (hn : n ≤ 1000) (hj : j ≤ C) (hC : 1000 * C ≤ 2000000000) : k ≤ 2000000000 := by
  have h5 := Nat.mul_le_mul_right C (show i + 1 ≤ 1000 by omega)
  rw [Nat.succ_mul] at h5
  omega
set_option maxRecDepth 20000 in
set_option maxHeartbeats 16000000 in
theorem pnamed (fs : List (B × B)) (p : Option Addr) (n c : Nat) (hn : fs.length = n) (w : World) (hF : FAt w p fs) (hsz : szN fs) (hnn : n ≤ 1000) (hmx : ∃ m : Int, w.cell? ⟨2, 0, none⟩ = some (.int .i64 m)) :
    Calls Tryz.prog 73 #[.slice p n c] w fun e w' => ∃ v, e = .returned (.tuple #[v, .map (some w.heap.size)]) ∧ NmS w w' v (namF [] fs) (namF [] fs) := by
  obtain ⟨mm, hmm0⟩ := hmx
  have HM := hid hmm0
  have HN := hid hn
  have HF := hid hF
  have HZ := hid hsz
  obtain ⟨T, hT⟩ : ∃ T, namF [] fs = T := ⟨_, rfl⟩
  rw [hT]
  have HT0 := hid (show namF [] (fs.drop 0) = T from hT)
  have HS0 := hid (show NmS w (w.alloc (.map #[] 0)) (.slice none 0 0) [] [] from ⟨below_new _ _, OwnS.nil _ _, PlAt.made w⟩)
  have hmm := @run_makeMap Tryz.prog
  obtain ⟨i0, hi, hz0, hz1, hz2⟩ := info_parts info9
  clear hn hF hsz hT hmm0
  go_enter Tryz.func73, Tryz.ntmps73
  go_wp2
  clear hmm
  go_loopg [4, 16] (n + 1) (fun gk s4 s16 wr => ∃ (i : Nat) (q : Option Addr) (k d : Nat) (ns : List B), s4 = .slice q k d ∧ s16 = .int .i64 (i : Int) ∧ i ≤ n ∧ gk = n - i + 1 ∧ ns.length = k ∧ k ≤ i * 1048577 ∧ NmS w wr (.slice q k d) ns ns ∧ namF ns (fs.drop i) = T)
  case atStart => exact ⟨0, none, 0, 0, [], rfl, rfl, by omega, rfl, rfl, by omega, HS0.out, HT0.out⟩
  case round =>
    obtain ⟨i, q, k, d, ns, rfl, rfl, hin, rfl, hk, hki, hs, ht⟩ := hrel
    rename World => wr
    have HKi := hid hki
    clear hki
    have HS := hid hs
    have HT := hid ht
    have HK := hid hk
    clear hs ht hk HS0 HT0
    by_cases hlt : i < n
    · obtain ⟨f, hf⟩ : ∃ f, fs[i]? = some f := ⟨fs[i]'(by rw [HN.out]; exact hlt), List.getElem?_eq_getElem (by rw [HN.out]; exact hlt)⟩
      obtain ⟨g, o, hp, c0, c1⟩ := (HF.out.next HS.out.low) i f hf
      subst hp
      have hltI : (i : Int) < (n : Int) := by omega
      obtain ⟨z1, z2⟩ := HZ.out f (List.mem_of_getElem? hf)
      have HD := hid (drop_atL hf)
      have HSm := hid (show ∀ W : World, _ from fun W => same_belW (str f.1) (str connB) W (by rw [str_size]; omega) (by decide))
      obtain ⟨N, hN⟩ : ∃ N, str f.1 = N := ⟨_, rfl⟩
      obtain ⟨V, hV⟩ : ∃ V, str f.2 = V := ⟨_, rfl⟩
      have HSB := hid (HS.out.next (below_new wr (.cells #[.string N, .string V] 88 (0, 0))))
      have HBx := hid (heap_alloc_new wr (.cells #[.string N, .string V] 88 (0, 0)))
      cases hS : sameB (str f.1) (str connB) with
      | false =>
        have HT1 := hid (show namF ns (fs.drop (i + 1)) = T from by rw [← HT.out, HD.out, namF_no hS])
        rw [hS] at HSm
        rw [hN] at c0 HSm
        rw [hV] at c1
        unfold connB at HSm
        clear hf hS hN hV z1 z2 HD
        go_wp2_with (go_at_call 97; (with_reducible refine (HSm.out _).mono ?_); rintro e w2 ⟨rfl, hb⟩; have HS2 := hid (HSB.out.next hb); clear hb HSm)
        go_roundg (n - (i + 1) + 1)
        case measure => omega
        case rel => exact ⟨i + 1, q, k, d, ns, rfl, by go_num, by omega, rfl, HK.out, bd_next HKi.out, HS2.out, HT1.out⟩
      | true =>
        have HT1 := hid (show namF (addN ns (listL f.2)) (fs.drop (i + 1)) = T from by rw [← HT.out, HD.out, namF_yes hS])
        have HLi := hid (show ∀ W : World, Below w.heap.size w W → _ from fun W hb => list_any (str f.2) mm W (by rw [str_size]; omega) (cell_keep hb HM.out))
        obtain ⟨J, hJ⟩ : ∃ J, listL f.2 = J := ⟨_, rfl⟩
        obtain ⟨n2, hn2⟩ : ∃ n2, J.length = n2 := ⟨_, rfl⟩
        have HN2 := hid hn2
        have hJn : n2 ≤ 1048577 := by rw [← hn2, ← hJ]; exact Nat.le_trans (listL_cnt _) (by omega)
        have HJz := hid (show ∀ y ∈ J, y.length ≤ 1048576 from fun y hy => Nat.le_trans (listL_small (by rw [hJ]; exact hy)) z2)
        have HJo := hid (show ∀ (W : World) (b : Nat) (v : Value), W.ownsRow b 9 1 v (listS (str f.2)).length ((listS (str f.2)).map strVL) → OwnS W b v J from fun W b v h => by rw [← hJ]; exact list_own h)
        rw [hJ] at HT1
        rw [hS] at HSm
        rw [hN] at c0 HSm
        rw [hV] at c1 HLi HJo
        unfold connB at HSm
        obtain ⟨y0, y1⟩ := box2W HBx.out
        clear hf hS hN hV z1 z2 HD hJ hn2
        go_wp2_with (first | (go_at_call 97; (with_reducible refine (HSm.out _).mono ?_); rintro e w2 ⟨rfl, hb⟩; have HS2 := hid (HSB.out.next hb); have x1 := cell_keep hb y1; clear hb HSm y0 y1) | (go_at_call 115; (with_reducible refine (HLi.out _ HS2.out.low).mono ?_); rintro e w3 ⟨v3, rfl, ho, hb⟩; have HS3 := hid (Nm2.start HS2.out hb); have HO3 := hid (HJo.out _ _ _ ho); obtain ⟨q3, d3, rfl⟩ : ∃ q d, v3 = .slice q n2 d := (by have h9 := own_slice HO3.out; rw [HN2.out] at h9; exact h9); clear hb ho HLi x1))
        go_loopg [4, 28] (n2 + 1) (fun gk s4 s28 wv => ∃ (j : Nat) (q : Option Addr) (k2 d : Nat) (ns2 : List B), s4 = .slice q k2 d ∧ s28 = .int .i64 (j : Int) ∧ j ≤ n2 ∧ gk = n2 - j + 1 ∧ ns2.length = k2 ∧ k2 ≤ i * 1048577 + j ∧ Nm2 w w2 w3 wv (.slice q k2 d) ns2 ns2 ∧ addN ns2 (J.drop j) = addN ns J)
        case atStart => exact ⟨0, q, k, d, ns, rfl, rfl, by omega, rfl, HK.out, Nat.le_trans HKi.out (Nat.le_add_right _ _), HS3.out, rfl⟩
        case round =>
          obtain ⟨j, q, k2, d, ns2, rfl, rfl, hjn, rfl, hk2, hkj, hs, ht⟩ := hrel
          rename World => wv
          have hk9 := bd_most hkj hlt hnn (Nat.le_trans hjn hJn) (by decide)
          have HKj := hid hkj
          clear hkj
          have HS4 := hid hs
          have HT2 := hid ht
          have HK2 := hid hk2
          clear hs ht hk2
          by_cases hlt2 : j < n2
          · obtain ⟨y, hy⟩ : ∃ y, J[j]? = some y := ⟨J[j]'(by rw [HN2.out]; exact hlt2), List.getElem?_eq_getElem (by rw [HN2.out]; exact hlt2)⟩
            obtain ⟨g2, o2, hq3, hc⟩ := row_at HO3.out HS4.out.kp hy
            subst hq3
            have hltI2 : (j : Int) < (n2 : Int) := by omega
            have hyz := HJz.out y (List.mem_of_getElem? hy)
            have HLo := hid (show ∀ W : World, _ from fun W => lower_bel y W hyz)
            have HDJ := hid (drop_atL hy)
            have HAy := hid (fun (h : ns2.contains (lowB y) = true) => show addN ns2 (J.drop (j + 1)) = addN ns J from by rw [← HT2.out, HDJ.out, addN_yes h])
            have HAn := hid (fun (h : ns2.contains (lowB y) = false) => show addN (ns2 ++ [lowB y]) (J.drop (j + 1)) = addN ns J from by rw [← HT2.out, HDJ.out, addN_no h])
            have hxl : (lowB y).length ≤ 1048576 := by rw [lowB_len]; exact hyz
            obtain ⟨x, hx⟩ : ∃ x, lowB y = x := ⟨_, rfl⟩
            rw [hx] at HLo HAy HAn hxl
            have HKey := hid (Go.WideMaps.keyOf_string_mk (k := 9) Tryz.underlying9 (s := str x) (show x.toArray.size ≤ maxLen by unfold maxLen; simp; omega))
            obtain ⟨Y, hY⟩ : ∃ Y, str y = Y := ⟨_, rfl⟩
            rw [hY] at hc HLo
            clear hy hx hY hyz hxl HDJ
            cases hC : ns2.contains x with
            | true =>
              have HC := hid hC
              have HA := hid (HAy.out hC)
              clear hC HAy HAn
              go_wp2_with (first | (go_at_call 116; (with_reducible refine (HLo.out _).mono ?_); rintro e w5 ⟨rfl, hb⟩; have HS5 := hid (HS4.out.next hb); clear hb HLo hc) | (at_lookup; obtain ⟨pn, D, hown, hpn, hhas⟩ := HS5.out.s.pl; refine wpList_lookup_own_ok_int _ rfl _ _ 130 rfl 9 3 .i64 lawP Tryz.underlying130 Tryz.underlying3 (zeroI _) w.heap.size pn D rfl hown _ _ rfl HKey.out ?_; intro cc _ _; rw [hhas x, HC.out]; clear hown hpn hhas))
              go_roundg (n2 - (j + 1) + 1)
              case measure => omega
              case rel => exact ⟨j + 1, q, k2, d, ns2, rfl, by go_num, by omega, rfl, HK2.out, Nat.le_succ_of_le HKj.out, HS5.out, HA.out⟩
            | false =>
              have HC := hid hC
              have HA := hid (HAn.out hC)
              clear hC HAy HAn
              go_wp2_with (first | (go_at_call 116; (with_reducible refine (HLo.out _).mono ?_); rintro e w5 ⟨rfl, hb⟩; have HS5 := hid (HS4.out.next hb); clear hb HLo hc) | (at_lookup; obtain ⟨pn, D, hown, hpn, hhas⟩ := HS5.out.s.pl; refine wpList_lookup_own_ok_int _ rfl _ _ 130 rfl 9 3 .i64 lawP Tryz.underlying130 Tryz.underlying3 (zeroI _) w.heap.size pn D rfl hown _ _ rfl HKey.out ?_; intro cc _ _; rw [hhas x, HC.out]; have HOn := hid hown; have HPn := hid hpn; have HHs := hid hhas; clear hown hpn hhas) | (at_mapUpdate; refine wpList_mapUpdate_own _ rfl _ _ _ 130 rfl 9 3 lawP Tryz.underlying130 (plainElem Tryz.prog 3) w.heap.size pn D rfl HOn.out (by have h9 := HPn.out; rw [HK2.out] at h9; unfold maxLen; omega) _ _ _ rfl rfl HKey.out _ [] (plainElem_int Tryz.underlying3 (wf_i64 (by omega))) ?_; intro w6 hown6 hg6; have HS6 := hid (HS5.out.put hg6 (PlAt.put (World.ownsMap.isMap HOn.out) HPn.out HHs.out hown6)); clear hown6 hg6 HOn HPn HHs) | (at_builtin; refine wpList_append_own_at _ rfl (.tmp 46) (.tmp 48) 129 rfl (w.heap.size + 1) 9 i0 (.string ByteArray.empty) 1 16 Tryz.underlying129 hi hz0 hz1 hz2 rfl (by decide) (.slice q k2 d) k2 (strC ns2) (by go_simp) (by have h9 := HS6.out.s.row.alloc (.cells #[.string (str x)] 9 (0, 0)); unfold OwnS at h9; rw [HK2.out] at h9; exact h9) ⟨w6.heap.size, 0, none⟩ 1 1 [.string (str x)] (by go_simp) rfl (one_cellL _ _ _) (strs_plain _) (by unfold maxLen; omega) (by omega) (Nat.le_trans (Nat.succ_le_of_lt HS6.out.s.pl.lt) (below_new _ _).size) ?_; intro v' w7 hown' hgrow _ hv'; obtain ⟨q', d', rfl⟩ := own_slice hown'; have HS7 := hid (HS6.out.app hgrow (OwnS.put (by rw [HK2.out]; exact hown')) hv'); clear hown' hgrow hv' HS6))
              go_roundg (n2 - (j + 1) + 1)
              case measure => omega
              case rel => exact ⟨j + 1, q', k2 + 1, d', ns2 ++ [x], rfl, by go_num, by omega, rfl, by rw [List.length_append, HK2.out]; rfl, Nat.succ_le_succ HKj.out, HS7.out, HA.out⟩
          · obtain rfl : j = n2 := by omega
            have hltI2 : ¬ (j : Int) < (j : Int) := by omega
            have HT3 := hid (show namF ns2 (fs.drop (i + 1)) = T from by
              rw [← HT1.out, ← HT2.out, List.drop_of_length_le (l := J) (by rw [HN2.out]; exact Nat.le_refl _)]
              rfl)
            clear hlt2
            go_wp2
            go_roundg (n - (i + 1) + 1)
            case measure => omega
            case rel => exact ⟨i + 1, q, k2, d, ns2, rfl, by go_num, by omega, rfl, HK2.out, bd_out HKj.out hJn, HS4.out.s, HT3.out⟩
    · obtain rfl : i = n := by omega
      have hltI : ¬ (i : Int) < (i : Int) := by omega
      have HE := hid (show ns = T from by
        rw [← HT.out, List.drop_of_length_le (l := fs) (by rw [HN.out]; exact Nat.le_refl _)]
        rfl)
      clear hlt
      go_wp2
      go_ret2
      exact ⟨_, rfl, by rw [← HE.out]; exact HS.out⟩
end Go.Proofs.YtnlmjlfoeodleaaGreatDoor
/- The document's names: whether a name is among others; what Connection names. -/
namespace Go.Proofs.YtnlmjlfoeodleaaGreatDoor
open Go.RowKit

/-- Names that lie in a row. -/
def StrAt (w : World) (p : Option Addr) (ns : List B) : Prop := ∀ j y, ns[j]? = some y → ∃ g o, p = some ⟨g, o, none⟩ ∧ w.cell? ⟨g, o + j, none⟩ = some (.string (str y))
theorem StrAt.next {w w' : World} {p : Option Addr} {ns : List B} (h : StrAt w p ns) (hb : Below w.heap.size w w') : StrAt w' p ns := by
  intro j y hj
  obtain ⟨g, o, e, hc⟩ := h j y hj
  exact ⟨g, o, e, cell_keep hb hc⟩
theorem OwnS.strAt {w : World} {b n c : Nat} {p : Option Addr} {ns : List B} (h : OwnS w b (.slice p n c) ns) : StrAt w p ns := fun _ _ hj => h.at hj
set_option maxRecDepth 20000 in
set_option maxHeartbeats 8000000 in
theorem din (nm : B) (ns : List B) (p : Option Addr) (n c : Nat) (hn : ns.length = n) (w : World) (hL : StrAt w p ns) (hnm : nm.length ≤ 140737488351232) (hz : ∀ y ∈ ns, y.length ≤ 140737488351232) (hnn : n ≤ 140737488351232) :
    Calls Tryz.prog 88 #[.string (str nm), .slice p n c] w fun e w' => e = .returned (.bool (inB nm ns)) ∧ Below w.heap.size w w' := by
  have HL := hid hL
  have HN := hid hn
  have HZ := hid hz
  obtain ⟨R, hR⟩ : ∃ R, inB nm ns = R := ⟨_, rfl⟩
  rw [hR]
  have HR := hid hR
  clear hL hn hz hR
  go_enter Tryz.func88, Tryz.ntmps88
  go_wp2
  go_loopg [5] (n + 1) (fun gk s5 wr => ∃ i : Nat, s5 = .int .i64 (i : Int) ∧ i ≤ n ∧ gk = n - i + 1 ∧ inB nm (ns.take i) = false ∧ Below w.heap.size w wr)
  case atStart => exact ⟨0, rfl, by omega, rfl, rfl, Below.refl _ _⟩
  case round =>
    obtain ⟨i, rfl, hin, rfl, hno, hb⟩ := hrel
    rename World => wr
    have HB := hid hb
    have HO := hid hno
    clear hb hno
    by_cases hlt : i < n
    · obtain ⟨y, hy⟩ : ∃ y, ns[i]? = some y := ⟨ns[i]'(by rw [HN.out]; exact hlt), List.getElem?_eq_getElem (by rw [HN.out]; exact hlt)⟩
      obtain ⟨g, o, hp, c0⟩ := (HL.out.next HB.out) i y hy
      subst hp
      have hltI : (i : Int) < (n : Int) := by omega
      have z1 := HZ.out y (List.mem_of_getElem? hy)
      have HSm := hid (show ∀ W : World, _ from fun W => rsame_any (str nm) (str y) W (by rw [str_size]; exact hnm) (by rw [str_size]; exact z1))
      have HTk := hid (show inB nm (ns.take (i + 1)) = (inB nm (ns.take i) || sameB (str nm) (str y)) from by unfold inB; rw [List.take_add_one, hy, List.any_append]; simp)
      have HIn := hid (fun (h : sameB (str nm) (str y) = true) => show R = true from by rw [← HR.out]; exact List.any_eq_true.2 ⟨y, List.mem_of_getElem? hy, h⟩)
      obtain ⟨S, hS⟩ : ∃ S, sameB (str nm) (str y) = S := ⟨_, rfl⟩
      rw [hS] at HSm HTk HIn
      obtain ⟨Y, hY⟩ : ∃ Y, str y = Y := ⟨_, rfl⟩
      rw [hY] at c0 HSm
      clear hy hS hY z1
      cases S with
      | true =>
        have HT := hid (HIn.out rfl)
        go_wp2_with (go_at_call 49; (with_reducible refine (HSm.out _).mono ?_); rintro e w2 ⟨rfl, hb⟩; have HB2 := hid (below_out HB.out hb); clear hb HSm)
        (try simp only [Exit.inBlock, Exit.then])
        go_ret
        exact ⟨(by rw [HT.out]; rfl), HB2.out⟩
      | false =>
        have HT := hid (show inB nm (ns.take (i + 1)) = false from by rw [HTk.out, HO.out]; rfl)
        go_wp2_with (go_at_call 49; (with_reducible refine (HSm.out _).mono ?_); rintro e w2 ⟨rfl, hb⟩; have HB2 := hid (below_out HB.out hb); clear hb HSm)
        go_roundg (n - (i + 1) + 1)
        case measure => omega
        case rel => exact ⟨i + 1, by go_num, by omega, rfl, HT.out, HB2.out⟩
    · obtain rfl : i = n := by omega
      have hltI : ¬ (i : Int) < (i : Int) := by omega
      have HT := hid (show R = false from by
        rw [← HR.out]
        have h9 := HO.out
        rw [List.take_of_length_le (by rw [HN.out]; exact Nat.le_refl _)] at h9
        exact h9)
      clear hlt
      go_wp2
      go_ret
      exact ⟨(by rw [HT.out]; rfl), HB.out⟩
theorem addN_small : ∀ (l ns : List B), (∀ e ∈ l, e.length ≤ 1048576) → (∀ y ∈ ns, y.length ≤ 1048576) → ∀ y ∈ addN ns l, y.length ≤ 1048576
  | [], _, _, h => h
  | e :: l, ns, hl, h => by
    unfold addN
    refine addN_small l _ (fun x hx => hl x (List.mem_cons_of_mem _ hx)) ?_
    split
    · exact h
    · intro y hy
      rcases List.mem_append.1 hy with h1 | h1
      · exact h y h1
      · simp at h1; rw [h1, lowB_len]; exact hl e (List.mem_cons_self ..)
theorem namF_small : ∀ (fs : List (B × B)) (ns : List B), szN fs → (∀ y ∈ ns, y.length ≤ 1048576) → ∀ y ∈ namF ns fs, y.length ≤ 1048576
  | [], _, _, h => h
  | f :: l, ns, hz, h => by
    unfold namF
    refine namF_small l _ (fun g hg => hz g (List.mem_cons_of_mem _ hg)) ?_
    split
    · exact addN_small (listL f.2) ns (fun e he => Nat.le_trans (listL_small he) (hz f (List.mem_cons_self ..)).2) h
    · exact h
theorem namF_len {C : Nat} : ∀ (fs : List (B × B)) (ns : List B), (∀ f ∈ fs, f.2.length + 1 ≤ C) → (namF ns fs).length ≤ ns.length + fs.length * C
  | [], ns, _ => by unfold namF; simp
  | f :: l, ns, h => by
    unfold namF
    have h1 := namF_len l (if isF (str connB) f = true then addN ns (listL f.2) else ns) (fun g hg => h g (List.mem_cons_of_mem _ hg))
    have h2 : (if isF (str connB) f = true then addN ns (listL f.2) else ns).length ≤ ns.length + C := by
      split
      · refine Nat.le_trans (addN_len _ _) ?_
        have h3 := listL_cnt f.2
        have h4 := h f (List.mem_cons_self ..)
        omega
      · omega
    rw [List.length_cons, Nat.succ_mul]
    omega
theorem namF_most (fs : List (B × B)) (hz : szN fs) (hn : fs.length ≤ 1000) : (namF [] fs).length ≤ 2000000000 := by
  have h := namF_len (C := 1048577) fs [] (fun f hf => Nat.succ_le_succ (hz f hf).2)
  have h2 := Nat.mul_le_mul_right 1048577 hn
  exact Nat.le_trans h (Nat.le_trans (by rw [List.length_nil, Nat.zero_add]; exact h2) (by decide))
/-- While the document's elements are gone through. -/
structure Nd2 (w w2 w3 W : World) (v : Value) (ns : List B) : Prop where
  low : Below w.heap.size w W
  row : OwnS W w.heap.size v ns
  kp : ∀ b, w2.heap.size ≤ b → b < w3.heap.size → W.heap[b]? = w3.heap[b]?
  sz : w3.heap.size ≤ W.heap.size
  nb : ∀ b, v.ownBlock = some b → ¬ (w2.heap.size ≤ b ∧ b < w3.heap.size)
theorem Nd2.start {w w2 w3 : World} {v : Value} {ns : List B} (hl : Below w.heap.size w w2) (h : OwnS w2 w.heap.size v ns) (hb : Below w2.heap.size w2 w3) : Nd2 w w2 w3 w3 v ns :=
  ⟨below_out hl hb, h.keep hb, fun _ _ _ => rfl, Nat.le_refl _, fun b e hh => by have := own_ltS h e; omega⟩
theorem Nd2.next {w w2 w3 W W' : World} {v : Value} {ns : List B} (h : Nd2 w w2 w3 W v ns) (hb : Below W.heap.size W W') : Nd2 w w2 w3 W' v ns :=
  ⟨below_out h.low hb, h.row.keep hb, fun b h1 h2 => (hb.block b (Nat.lt_of_lt_of_le h2 h.sz)).trans (h.kp b h1 h2), Nat.le_trans h.sz hb.size, h.nb⟩
theorem Nd2.app {w w2 w3 W W' : World} {o : Obj} {v v' : Value} {ns ns' : List B} (h : Nd2 w w2 w3 W v ns) (hg : (W.alloc o).grownBy W' v.ownBlock) (ho : OwnS W' w.heap.size v' ns') (hv : v'.ownBlock = v.ownBlock ∨ v'.ownBlock = some (W.alloc o).heap.size) : Nd2 w w2 w3 W' v' ns' := by
  have hz : W.heap.size < (W.alloc o).heap.size := by simp
  have hb := app_below' (B := w.heap.size) h.low h.low.size h.row hg
  refine ⟨hb, ho, fun b h1 h2 => ?_, Nat.le_trans h.sz (Nat.le_trans (Nat.le_of_lt hz) hg.size), fun b e => ?_⟩
  · have h3 := Nat.lt_of_lt_of_le h2 h.sz
    refine (hg.block b (Nat.lt_trans h3 hz) (fun e => h.nb b e.symm ⟨h1, h2⟩)).trans (((below_new W o).block b h3).trans (h.kp b h1 h2))
  · rcases hv with h5 | h5
    · exact h.nb b (by rw [← h5]; exact e)
    · rw [h5] at e
      obtain rfl := Option.some.inj e
      have := h.sz
      omega
theorem rlower_bel (s : B) (w : World) (hs : s.length ≤ 1048576) : Calls Tryz.prog 89 #[.string (str s)] w fun e w' => e = .returned (.string (str (lowB s))) ∧ Below w.heap.size w w' := by
  have h := rlower_any (str s) w (by rw [str_size]; omega)
  rw [lowS_str] at h
  exact h
set_option maxRecDepth 20000 in
set_option maxHeartbeats 16000000 in
theorem dNamed (fs : List (B × B)) (p : Option Addr) (n c : Nat) (hn : fs.length = n) (w : World) (hF : FAt w p fs) (hsz : szN fs) (hnn : n ≤ 1000) :
    Calls Tryz.prog 87 #[.slice p n c] w fun e w' => ∃ v, e = .returned v ∧ OwnS w' w.heap.size v (namF [] fs) ∧ Below w.heap.size w w' := by
  have HN := hid hn
  have HF := hid hF
  have HZ := hid hsz
  obtain ⟨T, hT⟩ : ∃ T, namF [] fs = T := ⟨_, rfl⟩
  rw [hT]
  have HT0 := hid (show namF [] (fs.drop 0) = T from hT)
  obtain ⟨i0, hi, hz0, hz1, hz2⟩ := info_parts info9
  clear hn hF hsz hT
  go_enter Tryz.func87, Tryz.ntmps87
  go_wp2
  go_loopg [3, 4] (n + 1) (fun gk s3 s4 wr => ∃ (i : Nat) (q : Option Addr) (k d : Nat) (ns : List B), s3 = .slice q k d ∧ s4 = .int .i64 (i : Int) ∧ i ≤ n ∧ gk = n - i + 1 ∧ ns.length = k ∧ k ≤ i * 1048577 ∧ OwnS wr w.heap.size (.slice q k d) ns ∧ Below w.heap.size w wr ∧ (lowAll ns ∧ ∀ y ∈ ns, y.length ≤ 1048576) ∧ namF ns (fs.drop i) = T)
  case atStart => exact ⟨0, none, 0, 0, [], rfl, rfl, by omega, rfl, rfl, Nat.zero_le _, OwnS.nil _ _, Below.refl _ _, ⟨fun y hy => (by cases hy), fun y hy => (by cases hy)⟩, HT0.out⟩
  case round =>
    obtain ⟨i, q, k, d, ns, rfl, rfl, hin, rfl, hk, hki, ho, hb, hl, ht⟩ := hrel
    rename World => wr
    have HKi := hid hki
    have HO := hid ho
    have HB := hid hb
    have HLo0 := hid hl
    have HT := hid ht
    have HK := hid hk
    clear ho hb ht hk hki hl HT0
    by_cases hlt : i < n
    · obtain ⟨f, hf⟩ : ∃ f, fs[i]? = some f := ⟨fs[i]'(by rw [HN.out]; exact hlt), List.getElem?_eq_getElem (by rw [HN.out]; exact hlt)⟩
      obtain ⟨g, o, hp, c0, c1⟩ := (HF.out.next HB.out) i f hf
      subst hp
      have hltI : (i : Int) < (n : Int) := by omega
      obtain ⟨z1, z2⟩ := HZ.out f (List.mem_of_getElem? hf)
      have HD := hid (drop_atL hf)
      have HSm := hid (show ∀ W : World, _ from fun W => rsame_any (str f.1) (str connB) W (by rw [str_size]; omega) (by decide))
      obtain ⟨N, hN⟩ : ∃ N, str f.1 = N := ⟨_, rfl⟩
      obtain ⟨V, hV⟩ : ∃ V, str f.2 = V := ⟨_, rfl⟩
      cases hS : sameB (str f.1) (str connB) with
      | false =>
        have HT1 := hid (show namF ns (fs.drop (i + 1)) = T from by rw [← HT.out, HD.out, namF_no hS])
        rw [hS] at HSm
        rw [hN] at c0 HSm
        rw [hV] at c1
        unfold connB at HSm
        clear hf hS hN hV z1 z2 HD
        go_wp2_with (go_at_call 49; (with_reducible refine (HSm.out _).mono ?_); rintro e w2 ⟨rfl, hb⟩; have HB2 := hid (below_out HB.out hb); have HO2 := hid (HO.out.keep hb); clear hb HSm)
        go_roundg (n - (i + 1) + 1)
        case measure => omega
        case rel => exact ⟨i + 1, q, k, d, ns, rfl, by go_num, by omega, rfl, HK.out, bd_next HKi.out, HO2.out, HB2.out, HLo0.out, HT1.out⟩
      | true =>
        have HT1 := hid (show namF (addN ns (listL f.2)) (fs.drop (i + 1)) = T from by rw [← HT.out, HD.out, namF_yes hS])
        have HLi := hid (show ∀ W : World, _ from fun W => rlist_any (str f.2) W (by rw [str_size]; omega))
        obtain ⟨J, hJ⟩ : ∃ J, listL f.2 = J := ⟨_, rfl⟩
        obtain ⟨n2, hn2⟩ : ∃ n2, J.length = n2 := ⟨_, rfl⟩
        have HN2 := hid hn2
        have hJn : n2 ≤ 1048577 := by rw [← hn2, ← hJ]; exact Nat.le_trans (listL_cnt _) (by omega)
        have HJz := hid (show ∀ y ∈ J, y.length ≤ 1048576 from fun y hy => Nat.le_trans (listL_small (by rw [hJ]; exact hy)) z2)
        have HJo := hid (show ∀ (W : World) (b : Nat) (v : Value), W.ownsRow b 9 1 v (listS (str f.2)).length ((listS (str f.2)).map strVL) → OwnS W b v J from fun W b v h => by rw [← hJ]; exact list_own h)
        rw [hJ] at HT1
        rw [hS] at HSm
        rw [hN] at c0 HSm
        rw [hV] at c1 HLi HJo
        unfold connB at HSm
        clear hf hS hN hV z1 z2 HD hJ hn2
        go_wp2_with (first | (go_at_call 49; (with_reducible refine (HSm.out _).mono ?_); rintro e w2 ⟨rfl, hb⟩; have HB2 := hid (below_out HB.out hb); have HO2 := hid (HO.out.keep hb); have x1 := cell_keep hb c1; clear hb HSm c0 c1) | (go_at_call 124; (with_reducible refine (HLi.out _).mono ?_); rintro e w3 ⟨v3, rfl, ho, hb⟩; have HS3 := hid (Nd2.start HB2.out HO2.out hb); have HO3 := hid (HJo.out _ _ _ ho); obtain ⟨q3, d3, rfl⟩ : ∃ q d, v3 = .slice q n2 d := (by have h9 := own_slice HO3.out; rw [HN2.out] at h9; exact h9); clear hb ho HLi x1))
        go_loopg [3, 6] (n2 + 1) (fun gk s3 s6 wv => ∃ (j : Nat) (q : Option Addr) (k2 d : Nat) (ns2 : List B), s3 = .slice q k2 d ∧ s6 = .int .i64 (j : Int) ∧ j ≤ n2 ∧ gk = n2 - j + 1 ∧ ns2.length = k2 ∧ k2 ≤ i * 1048577 + j ∧ Nd2 w w2 w3 wv (.slice q k2 d) ns2 ∧ (lowAll ns2 ∧ ∀ y ∈ ns2, y.length ≤ 1048576) ∧ addN ns2 (J.drop j) = addN ns J)
        case atStart => exact ⟨0, q, k, d, ns, rfl, rfl, by omega, rfl, HK.out, Nat.le_trans HKi.out (Nat.le_add_right _ _), HS3.out, HLo0.out, rfl⟩
        case round =>
          obtain ⟨j, q, k2, d, ns2, rfl, rfl, hjn, rfl, hk2, hkj, hs, hl, ht⟩ := hrel
          rename World => wv
          have hk9 := bd_most hkj hlt hnn (Nat.le_trans hjn hJn) (by decide)
          have HKj := hid hkj
          clear hkj
          have HS4 := hid hs
          have HL4 := hid hl
          have HT2 := hid ht
          have HK2 := hid hk2
          clear hs ht hk2 hl
          by_cases hlt2 : j < n2
          · obtain ⟨y, hy⟩ : ∃ y, J[j]? = some y := ⟨J[j]'(by rw [HN2.out]; exact hlt2), List.getElem?_eq_getElem (by rw [HN2.out]; exact hlt2)⟩
            obtain ⟨g2, o2, hq3, hc⟩ := row_at HO3.out HS4.out.kp hy
            subst hq3
            have hltI2 : (j : Int) < (n2 : Int) := by omega
            have hyz := HJz.out y (List.mem_of_getElem? hy)
            have HLw := hid (show ∀ W : World, _ from fun W => rlower_bel y W hyz)
            have HIn := hid (show ∀ W : World, StrAt W q ns2 → _ from fun W h => din y ns2 q k2 d HK2.out W h (by omega) (fun z hz => Nat.le_trans (HL4.out.2 z hz) (by decide)) (by omega))
            rw [inB_low y ns2 HL4.out.1] at HIn
            have HDJ := hid (drop_atL hy)
            have HAy := hid (fun (h : ns2.contains (lowB y) = true) => show addN ns2 (J.drop (j + 1)) = addN ns J from by rw [← HT2.out, HDJ.out, addN_yes h])
            have HAn := hid (fun (h : ns2.contains (lowB y) = false) => show addN (ns2 ++ [lowB y]) (J.drop (j + 1)) = addN ns J from by rw [← HT2.out, HDJ.out, addN_no h])
            have HLx := hid (show lowAll (ns2 ++ [lowB y]) ∧ ∀ z ∈ ns2 ++ [lowB y], z.length ≤ 1048576 from ⟨fun z hz => by
              rcases List.mem_append.1 hz with h1 | h1
              · exact HL4.out.1 z h1
              · simp at h1; rw [h1]; exact lowB_idem y, fun z hz => by
              rcases List.mem_append.1 hz with h1 | h1
              · exact HL4.out.2 z h1
              · simp at h1; rw [h1, lowB_len]; exact hyz⟩)
            obtain ⟨x, hx⟩ : ∃ x, lowB y = x := ⟨_, rfl⟩
            rw [hx] at HLw HAy HAn HIn HLx
            obtain ⟨Y, hY⟩ : ∃ Y, str y = Y := ⟨_, rfl⟩
            rw [hY] at hc HLw HIn
            clear hy hx hY hyz HDJ
            cases hC : ns2.contains x with
            | true =>
              rw [hC] at HIn
              have HA := hid (HAy.out hC)
              clear hC HAy HAn HLx HLw
              go_wp2_with (go_at_call 88; (with_reducible refine (HIn.out _ HS4.out.row.strAt).mono ?_); rintro e w5 ⟨rfl, hb⟩; have HS5 := hid (HS4.out.next hb); clear hb HIn hc)
              go_roundg (n2 - (j + 1) + 1)
              case measure => omega
              case rel => exact ⟨j + 1, q, k2, d, ns2, rfl, by go_num, by omega, rfl, HK2.out, Nat.le_succ_of_le HKj.out, HS5.out, HL4.out, HA.out⟩
            | false =>
              rw [hC] at HIn
              have HA := hid (HAn.out hC)
              clear hC HAy HAn
              go_wp2_with (first | (go_at_call 88; (with_reducible refine (HIn.out _ HS4.out.row.strAt).mono ?_); rintro e w5 ⟨rfl, hb⟩; have HS5 := hid (HS4.out.next hb); have x1 := cell_keep hb hc; clear hb HIn hc) | (go_at_call 89; (with_reducible refine (HLw.out _).mono ?_); rintro e w6 ⟨rfl, hb⟩; have HS6 := hid (HS5.out.next hb); clear hb HLw x1) | (at_builtin; refine wpList_append_own_at _ rfl (.tmp 39) (.tmp 45) 129 rfl w.heap.size 9 i0 (.string ByteArray.empty) 1 16 Tryz.underlying129 hi hz0 hz1 hz2 rfl (by decide) (.slice q k2 d) k2 (strC ns2) (by go_simp) (by have h9 := HS6.out.row.alloc (.cells #[.string (str x)] 9 (0, 0)); unfold OwnS at h9; rw [HK2.out] at h9; exact h9) ⟨w6.heap.size, 0, none⟩ 1 1 [.string (str x)] (by go_simp) rfl (one_cellL _ _ _) (strs_plain _) (by unfold maxLen; omega) (by omega) (Nat.le_trans HS6.out.low.size (below_new _ _).size) ?_; intro v' w7 hown' hgrow _ hv'; obtain ⟨q', d', rfl⟩ := own_slice hown'; have HS7 := hid (HS6.out.app hgrow (OwnS.put (by rw [HK2.out]; exact hown')) hv'); clear hown' hgrow hv' HS6))
              go_roundg (n2 - (j + 1) + 1)
              case measure => omega
              case rel => exact ⟨j + 1, q', k2 + 1, d', ns2 ++ [x], rfl, by go_num, by omega, rfl, by rw [List.length_append, HK2.out]; rfl, Nat.succ_le_succ HKj.out, HS7.out, HLx.out, HA.out⟩
          · obtain rfl : j = n2 := by omega
            have hltI2 : ¬ (j : Int) < (j : Int) := by omega
            have HT3 := hid (show namF ns2 (fs.drop (i + 1)) = T from by
              rw [← HT1.out, ← HT2.out, List.drop_of_length_le (l := J) (by rw [HN2.out]; exact Nat.le_refl _)]
              rfl)
            clear hlt2
            go_wp2
            go_roundg (n - (i + 1) + 1)
            case measure => omega
            case rel => exact ⟨i + 1, q, k2, d, ns2, rfl, by go_num, by omega, rfl, HK2.out, bd_out HKj.out hJn, HS4.out.row, HS4.out.low, HL4.out, HT3.out⟩
    · obtain rfl : i = n := by omega
      have hltI : ¬ (i : Int) < (i : Int) := by omega
      have HE := hid (show ns = T from by
        rw [← HT.out, List.drop_of_length_le (l := fs) (by rw [HN.out]; exact Nat.le_refl _)]
        rfl)
      clear hlt
      go_wp2
      go_ret
      exact ⟨_, rfl, by rw [← HE.out]; exact HO.out, HB.out⟩
end Go.Proofs.YtnlmjlfoeodleaaGreatDoor
