/- The document's sum of a message. -/
import Derived.Test.YtojcaoieodogdaaDoorRBlock
import Derived.Test.YtojcaoieodogdaaDoorRPad
import Derived.Test.YtojcaoieodogdaaDoorLens
namespace Go.Proofs.YtojcaoieodogdaaDoor
open Go.RowKit

theorem blockAt_len (m : List Int) (i : Nat) (h : 64 * i + 64 ≤ m.length) : (blockAt m i).length = 64 := by
  unfold blockAt
  simp
  omega
theorem padL_bd (n : Nat) : ∀ x ∈ padL n, 0 ≤ x ∧ x < 256 := by
  intro x hx
  unfold padL padTo at hx
  obtain ⟨j, _, rfl⟩ := List.mem_map.1 hx
  split
  · omega
  · split
    · omega
    · omega
/-- In the document's sum: the answer's cell, the message with what stands behind it, the constants, the state. -/
structure SumR (w W : World) (bb bk bh : Nat) (m s : List Int) : Prop where
  below : Below w.heap.size w W
  out : RowAt W w.heap.size (bsv (List.replicate 32 0)) 24
  lt : bb < W.heap.size
  msg : CellsAt W bb 0 m
  k : WCells W bk kTab
  st : WCells W bh s
theorem SumR.next {w W W' : World} {bb bk bh : Nat} {m s : List Int} (h : SumR w W bb bk bh m s) (hb : Below W.heap.size W W') : SumR w W' bb bk bh m s :=
  ⟨h.below.trans (hb.mono h.below.size), h.out.below hb, Nat.lt_of_lt_of_le h.lt hb.size, h.msg.of_heap (hb.block bb h.lt), h.k.below hb, h.st.below hb⟩
structure JoinR (w W : World) (bh bs : Nat) (st l : List Int) : Prop where
  below : Below w.heap.size w W
  out : RowAt W w.heap.size (bsv (List.replicate 32 0)) 24
  st : WCells W bh st
  sum : RowAt W bs (bsv l) 24
  ne : bh ≠ bs ∧ w.heap.size < bs
theorem Mine.cells {w W : World} {b c : Nat} {l : List Int} (h : Mine w W (some ⟨b, 0, none⟩) c l) : b < W.heap.size ∧ CellsAt W b 0 l := by
  rcases h.arg with ⟨h1, _⟩ | ⟨b', o', cap, h1, h2, _, _, h5⟩
  · simp at h1
  · simp only [Value.slice.injEq, Option.some.injEq] at h2
    obtain ⟨e1, _, _⟩ := h2
    cases e1
    exact ⟨h1, h5⟩
theorem Mine.some {w W : World} {pa : Option Addr} {c : Nat} {l : List Int} (h : Mine w W pa c l) (hl : 0 < l.length) : ∃ b, pa = Option.some ⟨b, 0, none⟩ := by
  cases pa with
  | none => obtain ⟨rfl, _⟩ := h.nothing rfl; simp at hl
  | some a =>
    obtain ⟨b, cur, rfl, _⟩ := h.row a rfl
    exact ⟨b, rfl⟩
set_option maxRecDepth 20000 in
set_option maxHeartbeats 4000000 in
theorem refSum_core (pv : Option Addr) (N c : Nat) (bs : List Int) (w : World) (ha : ArgAt w (.slice pv N c) bs) (hN : bs.length = N) (hbd : ∀ x ∈ bs, 0 ≤ x ∧ x < 256) (hm : N + 72 ≤ 140737488355328) :
    Calls Tryd.prog 8 #[.slice pv N c] w fun e w' => e = .returned (.agg (bsv (sha bs))) ∧ Below w.heap.size w w' := by
  have HA := hid ha
  have HN := hid hN
  have HBD := hid hbd
  have HM := hid hm
  obtain ⟨P, hP⟩ : ∃ P, padLen N = P := ⟨_, rfl⟩
  obtain ⟨m, hmm⟩ : ∃ m, bs ++ padL N = m := ⟨_, rfl⟩
  obtain ⟨L, hL⟩ : ∃ L, m.length = L := ⟨_, rfl⟩
  have hLP : N + P = L := by rw [← hL, ← hmm, List.length_append, padL_len, hN, hP]
  have hmb : ∀ x ∈ m, 0 ≤ x ∧ x < 256 := by
    intro x hx
    rw [← hmm] at hx
    rcases List.mem_append.1 hx with h | h
    · exact hbd x h
    · exact padL_bd N x h
  have hPb := padLen_bd N
  have hPm := padLen_mod N
  have HP : Hid (padLen N = P ∧ bs ++ padL N = m ∧ m.length = L ∧ N + P = L ∧ L % 64 = 0 ∧ (∀ x ∈ m, 0 ≤ x ∧ x < 256) ∧ 9 ≤ P ∧ P ≤ 72) := ⟨hP, hmm, hL, hLP, by rw [← hLP, ← hP]; exact hPm, hmb, by omega, by omega⟩
  have hLb : (L : Int) ≤ 140737488355328 := by omega
  clear ha hN hbd hm hP hmm hL hLP hmb hPb hPm
  go_enter Tryd.func8, Tryd.ntmps8
  go_wp2_with (first
    | (refine wpList_append_bytes rfl _ _ rfl rfl _ rfl bs (HA.out.below (below_new _ _)) (by have := HM.out; have := HN.out; omega) ?_; intro pa ca w1 hm1; rw [HN.out]; have M1 := hid hm1; clear hm1)
    | (go_at_call 36; (with_reducible refine (refPad_any N (by have := HM.out; omega) _).mono ?_); rintro e w2 ⟨pp, cp, he, hm2⟩; rw [HP.out.1] at he; subst he; have M2 := hid hm2; clear hm2)
    | (refine wpList_append_to rfl _ _ rfl pa N ca rfl bs HN.out (M1.out.next M2.out.below) _ rfl (padL N) (by have := M2.out.arg; rwa [padL_len, HP.out.1] at this) L (by rw [HP.out.2.1]; exact HP.out.2.2.1) (by have := HM.out; have := HP.out; omega) ?_; intro pb cb w3 hm3; rw [HP.out.2.1] at hm3; have M3 := hid hm3; clear hm3 M1 M2)
    | (go_at_call 37; (with_reducible refine (refFirst_any _).mono ?_); rintro e w4 ⟨p8, c8, rfl, hm4⟩; have M4 := hid hm4; clear hm4)
    | (go_at_call 38; (with_reducible refine (refConst_any _).mono ?_); rintro e w5 ⟨pk, ck, rfl, hm5⟩; have M5 := hid hm5; clear hm5))
  obtain ⟨bb, rfl⟩ := M3.out.some (by have := HP.out; omega)
  obtain ⟨b8, rfl⟩ := M4.out.some (by decide)
  obtain ⟨bk, rfl⟩ := M5.out.some (by decide)
  have HS0 : Hid (SumR w w5 bb bk b8 m first8) := by
    have h3 := M3.out.cells
    have b3 : Below w.heap.size w w3 := (below_new w _).trans (M3.out.below.mono (by simp))
    have b4 := b3.trans (M4.out.below.mono b3.size)
    have b5 := b4.trans (M5.out.below.mono b4.size)
    have x4 : CellsAt w4 bb 0 m := h3.2.of_heap (M4.out.below.block bb h3.1)
    have l4 : bb < w4.heap.size := Nat.lt_of_lt_of_le h3.1 M4.out.below.size
    exact ⟨b5, (((row_new w _ 24).below M3.out.below).below M4.out.below).below M5.out.below, Nat.lt_of_lt_of_le l4 M5.out.below.size, x4.of_heap (M5.out.below.block bb l4), M5.out.cells, M4.out.cells.below M5.out.below⟩
  have HCB : Hid ((L : Int) ≤ cb ∧ cb ≤ maxLen) := by
    have := M3.out.fits
    have := M3.out.most
    have := HP.out.2.2.1
    exact ⟨by omega, by omega⟩
  clear M3 M4 M5
  go_loopw [6, 8] (fun h i W => ∃ (k p bh ch : Nat), h = .slice (some ⟨bh, 0, none⟩) 8 ch ∧ i = .int .i64 p ∧ p ≤ L ∧ Hid (p = 64 * k) ∧ Hid (SumR w W bb bk bh m (absorb m k))) (fun _ i _ => L - (intOf i).toNat)
  case atStart => exact ⟨0, 0, b8, c8, rfl, rfl, Nat.zero_le _, rfl, HS0⟩
  case round =>
    clear HS0
    obtain ⟨k, p, bh, ch, rfl, rfl, hp, HK, HS⟩ := hrel
    obtain ⟨V, hV⟩ : ∃ V, V = wr := ⟨_, rfl⟩
    rw [← hV] at HS ⊢
    clear hV
    by_cases hlt : p < L
    · have hlt' : (p : Int) < L := by omega
      have hcb := HCB.out.1
      have h64 : (p : Int) + 64 ≤ L := by have := HK.out; have := HP.out.2.2.2.2.1; omega
      have h64c : (p : Int) + 64 ≤ cb := by omega
      have HB : Hid ((blockAt m k).length = 64 ∧ (∀ x ∈ blockAt m k, 0 ≤ x ∧ x < 256) ∧ CellsAt V bb p (blockAt m k)) := by
        refine ⟨blockAt_len m k (by have := HK.out; have := HP.out.2.2.1; omega), fun x hx => HP.out.2.2.2.2.2.1 x (List.mem_of_mem_drop (List.mem_of_mem_take hx)), ?_⟩
        have h1 := (HS.out.msg.drop (64 * k)).take 64
        rw [Nat.zero_add, ← HK.out] at h1
        unfold blockAt
        rw [← HK.out]
        exact h1
      have hcn : 64 ≤ cb - p := by omega
      go_wp2_with (go_at_call 39; (with_reducible refine (refBlock_any (absorb m k) (blockAt m k) (absorb_len m k) HB.out.1 HB.out.2.1 bh bk bb p ch ck (cb - p) hcn V HS.out.st HS.out.k HS.out.lt HB.out.2.2).mono ?_); rintro e w2 ⟨p2, c2, rfl, hm2⟩; have HM2 := hid hm2; clear hm2)
      obtain ⟨b2, rfl⟩ := HM2.out.some (by rw [mixW_len _ _ (absorb_len m k)]; decide)
      go_roundw
      case rel =>
        refine ⟨k + 1, p + 64, b2, c2, rfl, by go_num, by omega, ?_, ?_⟩
        · show _ = _
          have := HK.out
          omega
        · have h1 := HS.out.next HM2.out.below
          exact ⟨h1.below, h1.out, h1.lt, h1.msg, h1.k, HM2.out.cells⟩
      case measure => simp [intOf]; omega
    · have hlt' : ¬ (p : Int) < L := by omega
      have HW : Hid (absorb m k = whole m) := by
        show _ = _
        unfold whole
        rw [HP.out.2.2.1]
        have := HK.out
        rw [show L / 64 = k by omega]
      have HS2 : Hid (SumR w V bb bk bh m (whole m)) := by rw [← HW.out]; exact HS
      have HWL : Hid ((whole m).length = 8) := absorb_len m _
      clear HS HW HK HCB hLb hp hlt
      go_wp2
      clear hlt'
      obtain ⟨x, HX⟩ : ∃ x, Hid (V.heap.size = x) := ⟨_, hid rfl⟩
      rw [HX.out]
      go_loopw [10] (fun i W => ∃ k : Nat, k ≤ 32 ∧ i = .int .i64 k ∧ Hid (JoinR w W bh x (whole m) (fillTo (joinB (whole m)) k))) (fun i _ => 32 - (intOf i).toNat)
      case atStart =>
        refine ⟨0, Nat.zero_le _, rfl, ?_⟩
        have h1 := HS2.out.next (below_new V (.cells (bsv (List.replicate 32 0)) 24))
        have e : fillTo (joinB (whole m)) 0 = List.replicate 32 0 := by simp [fillTo, joinB_len]
        rw [e]
        have h2 := HS2.out.st.1
        have h3 := HS2.out.out.lt
        have h4 := HX.out
        refine ⟨h1.below, h1.out, h1.st, ?_, by omega, by omega⟩
        rw [← HX.out]
        exact row_new _ _ _
      case round =>
        clear HS2 HX
        obtain ⟨k, hk, rfl, HJ⟩ := hrel
        obtain ⟨U, hU⟩ : ∃ U, U = wr := ⟨_, rfl⟩
        rw [← hU] at HJ ⊢
        clear hU
        by_cases hlt : k < 32
        · have hlt' : (k : Int) < 32 := by omega
          have c0 := HJ.out.st.2 (k / 4) (by rw [HWL.out]; omega)
          have c1 := (HJ.out.sum.cell k).trans (bsv_get (by rw [fillTo_len _ _ (by rw [joinB_len]; omega), joinB_len]; exact hlt))
          have f1 := HJ.out.sum.fz k
          have hq : (k : Int) / 4 < 8 := by omega
          go_wp2
          go_roundw
          case rel =>
            refine ⟨k + 1, by omega, by go_num, ?_⟩
            have hn := HJ.out.ne
            have := HJ.out.sum.set k (.int .u8 ((whole m)[k / 4]?.getD 0 / 2 ^ (24 - 8 * (k % 4)) % 256))
            rw [bsv_set, ← joinB_at (whole m) k hlt, fillTo_set _ _ (by rw [joinB_len]; exact hlt)] at this
            rw [← joinB_at (whole m) k hlt]
            refine ⟨HJ.out.below.setCell (Nat.le_of_lt hn.2) _, HJ.out.out.other (Nat.ne_of_lt hn.2) _, ⟨by simpa [World.setCell] using HJ.out.st.1, fun i hi => ?_⟩, this, hn⟩
            rw [← HJ.out.st.2 i hi]
            unfold World.cell?
            rw [Below.heap_setCell _ _ _ _ (by show bh ≠ x; exact hn.1)]
          case measure => simp [intOf]; omega
        · have hlt' : ¬ (k : Int) < 32 := by omega
          have hs := HJ.out.sum
          rw [fillTo_all _ _ (by rw [joinB_len]; omega)] at hs
          have HS := hid hs
          clear hs
          go_wp2_with (first
            | (refine wpList_load_row rfl 24 _ rfl _ rfl 24 (bsv (joinB (whole m))) _ _ HS.out und24 rfl (by rw [size24, bsv_size, joinB_len]) ?_)
            | (refine wpList_store_row rfl 24 _ _ rfl _ (bsv (joinB (whole m))) rfl rfl 24 _ HJ.out.out (by rw [size24, bsv_size, joinB_len]) (by rw [bsv_size, bsv_size, joinB_len]; simp) (bsv_one _) ?_))
          refine bodyPost_ret (results_cell_row rfl _ _ _ 24 (bsv (joinB (whole m))) _ _ rfl (HJ.out.out.setRow _) und24 rfl (by rw [size24, bsv_size, joinB_len])) rfl ?_
          refine ⟨?_, below_setRow HJ.out.below (Nat.le_refl _) _⟩
          unfold sha
          rw [HN.out, HP.out.2.1]
theorem refSum_any {w : World} {v : Value} {bs : List Int} (ha : ArgAt w v bs) (hbd : ∀ x ∈ bs, 0 ≤ x ∧ x < 256) (hm : bs.length + 72 ≤ 140737488355328) :
    Calls Tryd.prog 8 #[v] w fun e w' => e = .returned (.agg (bsv (sha bs))) ∧ Below w.heap.size w w' := by
  rcases ha with ⟨rfl, rfl⟩ | ⟨b, o, cap, h1, rfl, h3, h4, h5⟩
  · exact refSum_core none 0 0 [] w (.inl ⟨rfl, rfl⟩) rfl hbd hm
  · exact refSum_core _ _ _ bs w (.inr ⟨b, o, cap, h1, rfl, h3, h4, h5⟩) rfl hbd hm
end Go.Proofs.YtojcaoieodogdaaDoor
