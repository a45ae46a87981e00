/- Add, by the program. -/
import Derived.Test.YtdjjkcpnjocafaaDoorTAddP
import Derived.Maps.AppendAt
namespace Go.Proofs.YtdjjkcpnjocafaaDoor
open Go.RowKit Go.Maps

theorem next_any {G : Gt} {M : Nat} (w : World) (x : B) (hxl : x.length ≤ 140737488355328) (k : List Ky) (n : Nat) (hM : M < 1000000) (hT : TreeAt w (Fp G) G M) (hk : G.nd k = some n) :
    Calls Tryd.prog 27 #[.pointer (some ⟨n, 0, none⟩), .agg #[.int .i64 (kindT x : Int), .string (str (segX x))]] w fun e w' => NextAns w G M (k ++ [keyT x]) e w' := by
  by_cases h : kindT x = 0
  · exact next_plain w x hxl k n h hM hT hk
  · exact next_link w x k n h hT hk
theorem ent_new {p : B} {S : ByteArray} (hS : str p = S) (w : World) (id : Int) (T : TypeId) : EntAt (w.alloc (.cells #[.string S, .int .i64 id] T (0, 0))) w.heap.size (p, id) := by
  have hcn := cells_new w [.string S, .int .i64 id] T
  have h0 := hcn 0 _ rfl
  have h1 := hcn 1 _ rfl
  rw [add_off] at h0 h1
  exact ⟨by show _ = some (Value.string (str p)); rw [hS]; exact h0, h1⟩
theorem Tr.mono {w : World} {t : Nat} {P : List (B × Int)} {M M' : Nat} {G : Gt} {es : List Nat} {v : Value} (h : Tr w t P M G es v) (hM : M ≤ M') : Tr w t P M' G es v := ⟨h.tree.wide (fun _ h => h) hM, h.root, h.all, h.row, h.rowno, h.len, h.ent, h.only, h.fine, h.ap⟩
theorem any_keys {w : World} {t : Nat} {P : List (B × Int)} {M : Nat} {G : Gt} {es : List Nat} {v : Value} (h : Tr w t P M G es v) (p : B) : P.any (fun q => decide (keysP q.1 = keysP p)) = (G.en (keysP p)).isSome := by
  cases he : G.en (keysP p) with
  | none =>
    rw [List.any_eq_false.2]
    · rfl
    · intro q hq hk
      obtain ⟨i, hi⟩ := List.getElem?_of_mem hq
      have hl : i < es.length := by rw [h.len]; exact (List.getElem?_eq_some_iff.1 hi).1
      have h1 := (h.ent i _ q (List.getElem?_eq_getElem hl) hi).2
      rw [of_decide_eq_true hk, he] at h1
      cases h1
  | some e =>
    rw [List.any_eq_true.2]
    · rfl
    · obtain ⟨i, q, _, hq, hk⟩ := h.only _ e he
      exact ⟨q, List.mem_of_getElem? hq, decide_eq_true hk⟩
set_option maxRecDepth 20000 in
set_option maxHeartbeats 16000000 in
theorem add_any {w : World} {t : Nat} {P : List (B × Int)} {M : Nat} {G : Gt} {es : List Nat} {v : Value} (h : Tr w t P M G es v) (hmx : MxAt w) (hM : M + 64 < 1000000) (hP : P.length ≤ 1000000) (p : B) (hp : p.length ≤ 140737488355328) (id : Int) :
    Calls Tryd.prog 8 #[.pointer (some ⟨t, 0, none⟩), .string (str p), .int .i64 id] w fun e w' => AddAns w t P M G es v p id e w' := by
  have HCk := hid (check_any p hp w hmx)
  obtain ⟨S, hS⟩ : ∃ S, str p = S := ⟨_, rfl⟩
  cases hc : checkP p with
  | false =>
    have HFin := hid (show ∀ W, Below w.heap.size w W → AddAns w t P M G es v p id (.returned err3) W from fun W hb => by
      have e1 : addE P p = 3 := by unfold addE; rw [hc]; rfl
      refine ⟨by rw [e1]; rfl, G, es, v, ?_, Below.kept hb, fun i hi => .inl hi⟩
      rw [show addP P p id = P from by unfold addP; rw [e1]; rfl]
      exact (h.next hb).mono (Nat.le_add_right _ _))
    rw [hc, if_neg (by decide), hS] at HCk
    rw [hS]
    clear hS hc h hmx
    go_enter Tryd.func8, Tryd.ntmps8
    go_wp2_with (go_at_call 11; (with_reducible refine HCk.out.mono ?_); rintro e w1 ⟨rfl, hb1⟩; have HB1 := hid hb1; clear hb1)
    go_ret
    exact HFin.out _ HB1.out
  | true =>
    obtain ⟨i0, hi0, hz0, hz1, hz2⟩ := info_parts infoE
    rw [hc, if_pos rfl, hS] at HCk
    have HCl := hid (fun W : World => cloneT p W (by omega))
    have HSg := hid (fun (W : World) (hm : MxAt W) => seg_yes hc W hm)
    rw [hS] at HCl HSg
    have HMx := hid hmx
    have HH := hid h
    have HS := hid hS
    have HXl := hid (show ∀ x ∈ cutT p.tail, x.length ≤ 140737488355328 from fun x hx => by
      have h1 := cutT_mem_len hx
      rw [List.length_tail] at h1
      omega)
    have hX64 : (cutT p.tail).length ≤ 64 := by obtain ⟨t', e1, h2, _⟩ := check_parts hc; rw [e1]; exact h2
    have HKp := hid (show keysP p = keysT (cutT p.tail) from rfl)
    obtain ⟨X, hX⟩ : ∃ X, cutT p.tail = X := ⟨_, rfl⟩
    rw [hX] at HSg HXl hX64 HKp
    have HFinT := hid (show ∀ W G', GrowT w W G G' → TreeAt W (Fp G') G' (M + 64) → (G.en (keysP p)).isSome = true → AddAns w t P M G es v p id (.returned (.iface 71 (.int .i64 6))) W from fun W G' hg hT he => by
      have e1 : addE P p = 6 := by unfold addE; rw [hc, if_pos rfl, any_keys h p, he]; rfl
      refine ⟨by rw [e1]; rfl, G', es, v, ?_, hg.kept.mono (fun i _ hf => .inl hf), fun i hi => ft_grow hg hi⟩
      rw [show addP P p id = P from by unfold addP; rw [e1]; rfl]
      exact h.grow hT hg)
    have HFinA := hid (show ∀ W G' es' v', Tr W t (P ++ [(p, id)]) (M + 64) G' es' v' → Kept (Ft G es v) w W → (∀ i, Ft G' es' v' i → Ft G es v i ∨ w.heap.size ≤ i) → (G.en (keysP p)) = none → AddAns w t P M G es v p id (.returned .nilIface) W from fun W G' es' v' hT hk hf he => by
      have e1 : addE P p = 0 := by unfold addE; rw [hc, if_pos rfl, any_keys h p, he]; rfl
      refine ⟨by rw [e1]; rfl, G', es', v', ?_, hk, hf⟩
      rw [show addP P p id = P ++ [(p, id)] from by unfold addP; rw [e1, if_pos rfl]]
      exact hT)
    rw [hS]
    have HC := hid hc
    clear hS hc h hmx hX
    go_enter Tryd.func8, Tryd.ntmps8
    go_wp2_with (first | (go_at_call 11; (with_reducible refine HCk.out.mono ?_); rintro e w1 ⟨rfl, hb1⟩; have HB1 := hid hb1; clear hb1) | (go_at_call 25; (with_reducible refine (HCl.out _).mono ?_); rintro e w2 ⟨rfl, hb2⟩; have HB2 := hid (below_out HB1.out hb2); have HB3 := hid (below_out HB2.out (below_new w2 (.cells #[.string S, .int .i64 id] 73 (0, 0)))); have HE3 := hid (ent_new HS.out w2 id 73); clear hb2) | (go_at_call 26; (with_reducible refine (HSg.out _ (HMx.out.next HB3.out)).mono ?_); rintro e w4 ⟨hb4, q4, n, c4, rfl, ho4, hn4⟩; have HN4 := hid hn4; have HG4 := hid ho4; have HB4 := hid (below_out HB3.out hb4); have HE4 := hid (HE3.out.keep (hb4.block _ HE3.out.lt)); rw [hn4] at hX64; clear hb4 ho4 hn4))
    obtain ⟨be, hbe⟩ : ∃ be, w2.heap.size = be := ⟨_, rfl⟩
    have hbew : w.heap.size ≤ be := by rw [← hbe]; exact HB2.out.size
    rw [hbe] at HE4 ⊢
    have HRow := hid (show ∀ W, Kept (Fp G) w4 W → SgAt W q4 X from fun W hk => OwnG.sg (HG4.out.keepB (fun g e => hk.block g (HG4.out.lt e) (fun hf => by
      have h1 := HH.out.tree.fp_lt hf
      have h2 := own_ge HG4.out e
      have h3 := HB3.out.size
      omega))))
    have HTr4 := hid (HH.out.next HB4.out)
    go_loopg [11, 40] (n + 1) (fun gk s11 s40 wr => ∃ (i ni : Nat) (Gi : Gt), i ≤ n ∧ gk = n - i + 1 ∧ s40 = .int .i64 (i : Int) ∧ s11 = .pointer (some ⟨ni, 0, none⟩) ∧ TreeAt wr (Fp Gi) Gi (M + i) ∧ Gi.nd (keysT (X.take i)) = some ni ∧ GrowT w4 wr G Gi)
    case atStart => exact ⟨0, t, G, by omega, rfl, rfl, rfl, HTr4.out.tree, HTr4.out.root, GrowT.refl _ _⟩
    case round =>
      obtain ⟨i, ni, Gi, hi, rfl, rfl, rfl, hTi, hni, hgi⟩ := hrel
      have HTi := hid hTi
      have HNi := hid hni
      have HGi := hid hgi
      clear hTi hni hgi
      by_cases hin : i < n
      · obtain ⟨x, hx⟩ : ∃ x, X[i]? = some x := ⟨_, List.getElem?_eq_getElem (by rw [HN4.out]; exact hin)⟩
        have HKs := hid (keys_snoc hx)
        have hxl := HXl.out x (List.mem_of_getElem? hx)
        obtain ⟨g1, o1, rfl, q1, q2⟩ := (HRow.out wr HGi.out.kept) i x hx
        have HNx := hid (fun (W : World) (h1 : TreeAt W (Fp Gi) Gi (M + i)) => next_any W x hxl _ ni (by omega) h1 HNi.out)
        obtain ⟨T, hT⟩ : ∃ T, str (segX x) = T := ⟨_, rfl⟩
        obtain ⟨K, hK⟩ : ∃ K : Int, (kindT x : Int) = K := ⟨_, rfl⟩
        rw [hT, hK] at HNx
        rw [hT] at q2
        rw [hK] at q1
        have HTb := hid (HTi.out.next (below_new wr (.cells #[.int .i64 K, .string T] 78 (0, 0))))
        clear hx hT hK hxl
        go_wp2_with (go_at_call 27; (with_reducible refine (HNx.out _ HTb.out).mono ?_); rintro e w5 ⟨c5, G5, rfl, hT5, hn5, hg5⟩; have HT5 := hid hT5; have HN5 := hid hn5; have HG5 := hid (HGi.out.trans (GrowT.ahead (below_new wr _) hg5)); clear hT5 hn5 hg5)
        go_roundg (n - (i + 1) + 1)
        case measure => omega
        case rel => exact ⟨i + 1, c5, G5, by omega, rfl, by push_cast; go_num, rfl, HT5.out, by rw [HKs.out]; exact HN5.out, HG5.out⟩
      · obtain rfl : n = i := by omega
        have HKn := hid (show keysT (X.take n) = keysP p from by rw [List.take_of_length_le (by rw [HN4.out]; exact Nat.le_refl _)]; exact HKp.out.symm)
        rw [HKn.out] at HNi
        have hnode := (HTi.out.node _ ni HNi.out).2
        have qe := hnode.c3
        rw [HGi.out.en] at qe
        cases hen : G.en (keysP p) with
        | some e0 =>
          rw [hen, ptrN_some] at qe
          have HEn := hid hen
          clear hnode hen
          go_wp2
          go_ret
          exact HFinT.out _ Gi (GrowT.ahead HB4.out HGi.out) (HTi.out.wide (fun _ h => h) (by omega)) (by rw [HEn.out]; rfl)
        | none =>
          rw [hen, ptrN_none] at qe
          have HEn := hid hen
          have HTn := hid (HTr4.out.grow HTi.out HGi.out)
          have qf := hnode.fz 3
          have HEb := hid (HE4.out.keep (HGi.out.kept.block be HE4.out.lt (fun hf => by have h1 := HH.out.tree.fp_lt hf; omega)))
          have hrb : v.ownBlock ≠ some be := fun e1 => by have h1 := HH.out.row.lt e1; omega
          have hsA := (kept_set wr ni 3 (ptrN (some be))).size
          obtain ⟨WA, hWA⟩ : ∃ WA, wr.setCell ⟨ni, 3, none⟩ (.pointer (some ⟨be, 0, none⟩)) = WA := ⟨_, rfl⟩
          have hWA2 : WA = wr.setCell ⟨ni, 3, none⟩ (ptrN (some be)) := hWA.symm
          have HWA2 := hid hWA2
          have HRowA := hid (show OwnE WA 0 v es from by rw [hWA2]; exact HTn.out.row.set (fun e1 => (HTn.out.rowno ni e1).1 (.inl ⟨_, HNi.out⟩)))
          have HallA := hid (show WA.cell? ⟨t, 4, none⟩ = some v from by rw [hWA2]; exact cell4_set (by decide) HTn.out.all)
          have HRtA := hid (show ∃ cs T, WA.heap[t]? = some (.cells cs T (0, 0)) from by
            have hb := (HTn.out.tree.node _ t HTn.out.root).2.bk
            by_cases e1 : t = ni
            · rw [hWA2, e1]; rw [e1] at hb; exact bk_set hb
            · obtain ⟨cs, T, hb⟩ := hb
              exact ⟨cs, T, by rw [hWA2, RowKit.Below.heap_setCell wr ⟨ni, 3, none⟩ _ t e1]; exact hb⟩)
          have htv : v.ownBlock ≠ some t := fun e1 => (HTn.out.rowno t e1).1 (.inl ⟨_, HTn.out.root⟩)
          obtain ⟨pv, m5, cv, rfl⟩ := own_slice3 HRowA.out
          obtain rfl : m5 = es.length := row_len HRowA.out
          have hLe : es.length ≤ 1000000 := by rw [HH.out.len]; exact hP
          have HLe0 := hid (show es.length = es.length from rfl)
          obtain ⟨m5, hm5⟩ : ∃ m5, es.length = m5 := ⟨_, rfl⟩
          have HLe := hid hm5
          rw [hm5] at hLe
          rw [hm5] at HRowA HallA
          have qA := HallA.out
          have HRow5 := hid (show (WA.alloc (.cells #[.pointer (some ⟨be, 0, none⟩)] 65 (0, 0))).ownsRow 0 65 1 (.slice pv m5 cv) m5 (es.flatMap ptrF) from by have h9 := HRowA.out.alloc (.cells #[.pointer (some ⟨be, 0, none⟩)] 65 (0, 0)); unfold OwnR at h9; rw [hm5] at h9; exact h9)
          have HRt := hid (show ∀ W2, (WA.alloc (.cells #[.pointer (some ⟨be, 0, none⟩)] 65 (0, 0))).grownBy W2 (Value.slice pv m5 cv).ownBlock → ∃ cs T, W2.heap[t]? = some (.cells cs T (0, 0)) from fun W2 hg => by
            obtain ⟨cs, T, hb⟩ := HRtA.out
            have hl := lt_of_heap hb
            refine ⟨cs, T, ((hg.block t (by simp; omega) (fun e1 => ?_)).trans ((below_new WA _).block t hl)).trans hb⟩
            rw [← hm5] at e1
            exact htv e1.symm)
          have HRv := hid (show ∀ W2, (WA.alloc (.cells #[.pointer (some ⟨be, 0, none⟩)] 65 (0, 0))).grownBy W2 (Value.slice pv m5 cv).ownBlock → W2.cell? ⟨t, 4, none⟩ = some (.slice pv m5 cv) from fun W2 hg => by
            have hl := lt_of_cell HallA.out
            refine cell_same HallA.out ((hg.block t (by simp; omega) (fun e1 => ?_)).trans ((below_new WA _).block t hl))
            rw [← hm5] at e1
            exact htv e1.symm)
          have hwn : keysT (X.take n) = keysP p := HKn.out
          clear hnode hen hWA2
          go_wp2_with (at_builtin; refine wpList_append_own_at _ rfl (.tmp 62) (.tmp 64) 68 rfl 0 65 i0 _ 1 8 Tryd.underlying68 hi0 hz0 hz1 hz2 rfl (by decide) (.slice pv m5 cv) m5 (es.flatMap ptrF) (by go_simp) HRow5.out ⟨WA.heap.size, 0, none⟩ 1 1 [.pointer (some ⟨be, 0, none⟩)] (by go_simp) rfl (cells_new WA _ _) (by simp [Value.oneCell']) (by unfold maxLen; omega) (by omega) (Nat.zero_le _) ?_; intro v' W2 hown hgr _ hvv; obtain ⟨p7, L7, c7, rfl⟩ := own_slice3 hown; have HOw := hid (show OwnE W2 0 (.slice p7 L7 c7) (es ++ [be]) from OwnR.put HLe.out hown); have HGr := hid hgr; have HVv := hid hvv; have qt1 : W2.frozen? ⟨t, 4, none⟩ = false := (by obtain ⟨cs9, T9, hb9⟩ := HRt.out W2 hgr; exact frozen_of_row W2 t 4 cs9 T9 hb9); have qt2 := HRv.out W2 hgr; clear hown hgr hvv)
          go_ret
          subst hm5
          have hfin := HTn.out.added HNi.out (by rw [HGi.out.en]; exact HEn.out) HC.out HEb.out hrb HWA2.out HOw.out HGr.out HVv.out rfl
          obtain ⟨hf1, hf2⟩ := hfin
          refine HFinA.out _ _ _ _ (hf1.mono (by omega)) ?_ ?_ HEn.out
          · have k1 : Kept (Ft G es (.slice pv es.length cv)) w wr := (Below.kept HB4.out).trans HGi.out.kept (fun i _ hf => .inl hf)
            exact k1.trans hf2 (fun i hi hf => (ft_grow HGi.out hf).elim (fun h => h) (fun e1 => by have := HB4.out.size; omega))
          · intro i hi9
            have hwa : WA.heap.size = wr.heap.size := by rw [HWA2.out]; simp [World.setCell]
            have hgs := HGi.out.kept.size
            have hbs := HB4.out.size
            rcases ft_added HVv.out hi9 with h1 | h1 | h1
            · exact (ft_grow HGi.out h1).elim .inl (fun e1 => .inr (by omega))
            · right
              rw [h1]
              simp
              omega
            · right
              omega
end Go.Proofs.YtdjjkcpnjocafaaDoor
