/- The document's code of a key and a text. -/
import Derived.Test.YtojcaoieodogdaaDoorRSum
import Derived.Test.YtojcaoieodogdaaDoorMKey
import Derived.Laws.BitsAll
namespace Go.Proofs.YtojcaoieodogdaaDoor
open Go.RowKit

/-- append to a slice of one's own: what else lies in memory stays. -/
theorem wpList_append_two {ops : Array Oper} {rest : List Oper} {o : Oper} {a : Act} {w0 w : World} {Q : Exit → Act → World → Prop} (hgd : o.guard = none) (s x : Operand)
    (ho : o.op = .call { callee := .builtin .append, args := #[s, x], argTypes := #[22, 22] })
    (pa : Option Addr) (N cap : Nat) (hs : a.eval s = .slice pa N cap) (q : List Int) (hN : q.length = N) (hm : Mine w0 w pa cap q) (v : Value) (hx : a.eval x = v) (ys : List Int) (hv : ArgAt w v ys) (M : Nat) (hM : (q ++ ys).length = M) (hlen : M ≤ 140737488355328)
    (h : ∀ pa' cap' w', Mine w0 w' pa' cap' (q ++ ys) → w.grownBy w' (Value.ownBlock (.slice pa N cap)) → wpList Tryd.prog ops Q rest (a.put o.dst (.slice pa' M cap')) w') : wpList Tryd.prog ops Q (o :: rest) a w := by
  refine wpList_plain hgd fun K hK => ?_
  subst hM
  subst hN
  obtain ⟨i, h2, h3, h4, h5⟩ := info_parts info5
  have hu : Tryd.prog.underlying 22 = some (.slice 5) := by kernel_rfl
  have hown := hm.owns
  have hsz := hm.below.size
  rcases hv with ⟨rfl, rfl⟩ | ⟨b, p, c, h6, rfl, h7, h8, h9⟩
  · have hrun := run_append_owned_none (P := Tryd.prog) (w := w) w0.heap.size 22 o.type 5 i 1 hu h2 _ _ _ hown
    unfold Oper.wp
    simp [execOp, ho, resolve, invoke, builtin, hs, hx, hrun, Result.andThen]
    have h10 : K (a.put o.dst (.slice pa q.length cap)) w := by
      have := hK _ _ (h pa cap w (by simpa using hm) ⟨rfl, rfl, rfl, Nat.le_refl _, fun _ _ _ => rfl⟩)
      simpa using this
    exact h10
  · refine wp_append_own w s x 22 ho w0.heap.size 5 i (.int .u8 0) 1 1 hu h2 h3 h4 h5 rfl (by decide) _ _ _ hs hown ⟨b, p, none⟩ ys.length c (ys.map (Value.int .u8)) hx (by simp)
      (by
        intro j u hj
        simp only [List.getElem?_map, Option.map_eq_some_iff] at hj
        obtain ⟨y, hy, rfl⟩ := hj
        have hplain : (⟨b, p, none⟩ : Addr).add j = ⟨b, p + j, none⟩ := by unfold Addr.add; split <;> simp_all
        rw [hplain]
        exact h9 j y hy) (oneCell_bytes ys) (by have := hm.most; simp at hlen; unfold maxLen; omega) (by simp at hlen; omega) hsz ?_
    intro v' w' hown' hgrow _
    have hb : Below w0.heap.size w0 w' := hm.below.grown hgrow hsz (fun k hk => (hown.lt k hk).1)
    rw [← List.map_append, ← List.length_append] at hown'
    obtain ⟨pa', cap', rfl, hm'⟩ := mine_of hown' hb
    exact hK _ _ (h pa' cap' w' hm' hgrow)
theorem mine_kept {w0 w w' : World} {p1 p2 : Option Addr} {c1 c2 N : Nat} {l2 : List Int} (h : Mine w0 w p2 c2 l2) (hg : w.grownBy w' (Value.ownBlock (.slice p1 N c1))) (hb : Below w0.heap.size w0 w') (hne : ∀ a b, p1 = some a → p2 = some b → a.block ≠ b.block) : Mine w0 w' p2 c2 l2 := by
  refine ⟨hb, h.fits, h.most, h.nothing, fun a ha => ?_⟩
  obtain ⟨b, cur, h0, h1, h2, h3⟩ := h.row a ha
  refine ⟨b, cur, h0, h1, ?_, h3⟩
  rw [hg.block b (lt_of_heap h2) ?_]
  · exact h2
  · intro e
    cases p1 with
    | none => simp [Value.ownBlock] at e
    | some a1 =>
      simp only [Value.ownBlock, Option.some.injEq] at e
      have := hne a1 a rfl ha
      rw [h0] at this
      exact this e.symm
theorem heads_part {w0 w : World} {p1 p2 : Option Addr} {c1 c2 : Nat} {l1 l2 : List Int} (h1 : Mine w0 w p1 c1 l1) (h2 : Mine w0 w p2 c2 l2) {x y : Int} (hx : l1[0]? = some x) (hy : l2[0]? = some y) (hxy : x ≠ y) : ∀ a b, p1 = some a → p2 = some b → a.block ≠ b.block := by
  intro a b ha hb e
  obtain ⟨b1, cur1, e1, _, r1, _, t1⟩ := h1.row a ha
  obtain ⟨b2, cur2, e2, _, r2, _, t2⟩ := h2.row b hb
  subst e1
  subst e2
  simp only at e
  subst e
  rw [r1] at r2
  simp only [Option.some.injEq, Obj.cells.injEq] at r2
  obtain ⟨rfl, _⟩ := r2
  have n1 : 0 < l1.length := (List.getElem?_eq_some_iff.1 hx).1
  have n2 : 0 < l2.length := (List.getElem?_eq_some_iff.1 hy).1
  have z1 : (cur1.toList.take l1.length)[0]? = some (Value.int .u8 x) := by rw [t1]; simp [hx]
  have z2 : (cur1.toList.take l2.length)[0]? = some (Value.int .u8 y) := by rw [t2]; simp [hy]
  rw [List.getElem?_take, if_pos n1] at z1
  rw [List.getElem?_take, if_pos n2, z1] at z2
  simp only [Option.some.injEq, Value.int.injEq, true_and] at z2
  exact hxy z2
theorem RowAt.kept {w w' : World} {p : Option Addr} {c N x : Nat} {cs : Array Value} {w0 : World} {l : List Int} {t : TypeId} (h : RowAt w x cs t) (hm : Mine w0 w p c l) (ht : t ≠ 5) (hg : w.grownBy w' (Value.ownBlock (.slice p N c))) : RowAt w' x cs t := by
  show _ = _
  rw [hg.block x h.lt ?_]
  · exact h
  · intro e
    cases p with
    | none => simp [Value.ownBlock] at e
    | some a =>
      simp only [Value.ownBlock, Option.some.injEq] at e
      obtain ⟨b, cur, e1, _, r, _⟩ := hm.row a rfl
      subst e1
      simp only at e
      subst e
      have h' : w.heap[x]? = some (.cells cs t (0, 0)) := h
      rw [r] at h'
      simp only [Option.some.injEq, Obj.cells.injEq] at h'
      exact ht h'.2.1.symm
theorem xor_heads (b : Int) (h : 0 ≤ b ∧ b < 256) : bits .xor .u8 b 54 ≠ bits .xor .u8 b 92 := by
  obtain ⟨n, rfl⟩ : ∃ n : Nat, b = n := ⟨b.toNat, by omega⟩
  have all : ∀ n : Fin 256, n.1 ^^^ 54 ≠ n.1 ^^^ 92 := by decide +kernel
  rw [u8_xor _ _ (by omega) (by omega) (by omega) (by omega), u8_xor _ _ (by omega) (by omega) (by omega) (by omega)]
  have := all ⟨n, by omega⟩
  simp only [Int.toNat_natCast] at this ⊢
  intro e
  exact this (by exact_mod_cast e)
theorem xor_bd (b x : Int) (h : 0 ≤ b ∧ b < 256) (hx : 0 ≤ x ∧ x < 256) : 0 ≤ bits .xor .u8 b x ∧ bits .xor .u8 b x < 256 := by
  rw [u8_xor _ _ h.1 h.2 hx.1 hx.2]
  have : b.toNat ^^^ x.toNat < 2 ^ 8 := Nat.xor_lt_two_pow (by omega) (by omega)
  omega
theorem xorB_bd (x : Int) (hx : 0 ≤ x ∧ x < 256) (l : List Int) (h : ∀ b ∈ l, 0 ≤ b ∧ b < 256) : ∀ b ∈ xorB x l, 0 ≤ b ∧ b < 256 := by
  intro b hb
  obtain ⟨y, hy, rfl⟩ := List.mem_map.1 hb
  exact xor_bd y x (h y hy) hx
theorem keyB_bd (k : List Int) (h : ∀ b ∈ k, 0 ≤ b ∧ b < 256) : ∀ b ∈ keyB k, 0 ≤ b ∧ b < 256 := by
  intro b hb
  unfold keyB fill64 at hb
  rcases List.mem_append.1 hb with hb | hb
  · unfold keyS at hb
    split at hb
    · exact sha_bd _ b hb
    · exact h b hb
  · have := List.eq_of_mem_replicate hb
    omega
/-- Both slices under way. -/
structure TwoB (w0 W : World) (kb : List Int) (k : Nat) (p1 p2 : Option Addr) (c1 c2 : Nat) : Prop where
  m1 : Mine w0 W p1 c1 ((xorB 54 kb).take k)
  m2 : Mine w0 W p2 c2 ((xorB 92 kb).take k)
  z : k = 0 → p1 = none ∧ p2 = none
theorem xorB_take (x : Int) (kb : List Int) (k : Nat) (h : k < kb.length) : (xorB x kb).take k ++ [bits .xor .u8 (kb[k]?.getD 0) x] = (xorB x kb).take (k + 1) := by
  rw [List.take_succ_eq_append_getElem (by rw [xorB_len]; exact h)]
  simp [xorB, h]
theorem xorB_head (x : Int) (kb : List Int) (k : Nat) (hk : 0 < k) (h : 0 < kb.length) : ((xorB x kb).take k)[0]? = some (bits .xor .u8 (kb[0]?.getD 0) x) := by
  rw [List.getElem?_take, if_pos hk]
  simp [xorB, h]
theorem two_step1 {w0 V W : World} {ob : Obj} {kb : List Int} {k : Nat} {p1 p2 p1' : Option Addr} {c1 c2 c1' : Nat} (H : TwoB w0 V kb k p1 p2 c1 c2) (h64 : kb.length = 64) (hbd : ∀ b ∈ kb, 0 ≤ b ∧ b < 256)
    (hm : Mine w0 W p1' c1' ((xorB 54 kb).take (k + 1))) (hg : (V.alloc ob).grownBy W (Value.ownBlock (.slice p1 k c1))) : Mine w0 W p2 c2 ((xorB 92 kb).take k) := by
  refine mine_kept (H.m2.next (below_new V ob)) hg hm.below ?_
  by_cases h0 : k = 0
  · intro a b ha hb
    rw [(H.z h0).1] at ha
    cases ha
  · have hb0 : (0 : Int) ≤ kb[0]?.getD 0 ∧ kb[0]?.getD 0 < 256 := by
      rw [List.getElem?_eq_getElem (by omega)]
      exact hbd _ (List.getElem_mem _)
    exact heads_part H.m1 H.m2 (xorB_head 54 kb k (by omega) (by omega)) (xorB_head 92 kb k (by omega) (by omega)) (xor_heads _ hb0)
theorem two_step2 {w0 V W : World} {ob : Obj} {kb : List Int} {k : Nat} {p1 p2 p2' : Option Addr} {c1 c2 c2' : Nat} (h1 : Mine w0 V p1 c1 ((xorB 54 kb).take (k + 1))) (h2 : Mine w0 V p2 c2 ((xorB 92 kb).take k)) (hz : k = 0 → p2 = none) (h64 : kb.length = 64) (hbd : ∀ b ∈ kb, 0 ≤ b ∧ b < 256)
    (hm : Mine w0 W p2' c2' ((xorB 92 kb).take (k + 1))) (hg : (V.alloc ob).grownBy W (Value.ownBlock (.slice p2 k c2))) : TwoB w0 W kb (k + 1) p1 p2' c1 c2' := by
  refine ⟨mine_kept (h1.next (below_new V ob)) hg hm.below ?_, hm, fun h => by omega⟩
  by_cases h0 : k = 0
  · intro a b ha hb
    rw [hz h0] at ha
    cases ha
  · have hb0 : (0 : Int) ≤ kb[0]?.getD 0 ∧ kb[0]?.getD 0 < 256 := by
      rw [List.getElem?_eq_getElem (by omega)]
      exact hbd _ (List.getElem_mem _)
    exact heads_part h2 h1 (xorB_head 92 kb k (by omega) (by omega)) (xorB_head 54 kb (k + 1) (by omega) (by omega)) (xor_heads _ hb0).symm
theorem take_two_key (l : List Int) (k : Nat) (h : k < l.length) : (fillTo (fill64 l) k).set k (l[k]?.getD 0) = fillTo (fill64 l) (k + 1) := by
  have e : (fill64 l)[k]?.getD 0 = l[k]?.getD 0 := by
    unfold fill64
    rw [List.getElem?_append_left h]
  rw [← e]
  exact fillTo_set _ _ (by simp [fill64]; omega)
theorem fillTo_key (l : List Int) (h : l.length ≤ 64) : fillTo (fill64 l) l.length = fill64 l := by
  unfold fillTo
  rw [fill64_len l h]
  unfold fill64
  rw [List.take_left]
/-- In the document's code: the answer's cell and the key's block. -/
structure RKeyP (w W : World) (l : List Int) : Prop where
  below : Below w.heap.size w W
  out : RowAt W w.heap.size (bsv (List.replicate 32 0)) 24
  fil : RowAt W (w.heap.size + 1) (bsv l) 59
theorem RKeyP.next {w W W' : World} {l : List Int} (h : RKeyP w W l) (hb : Below W.heap.size W W') : RKeyP w W' l := ⟨h.below.trans (hb.mono h.below.size), h.out.below hb, h.fil.below hb⟩
theorem rkeyP_start (w : World) : RKeyP w ((w.alloc (.cells (bsv (List.replicate 32 0)) 24)).alloc (.cells (bsv (List.replicate 64 0)) 59)) (List.replicate 64 0) :=
  ⟨((Below.refl _ _).alloc (Nat.le_refl _) _).alloc (by simp) _, (row_new _ _ _).alloc _, row_new2 _ _ _ _⟩
theorem RKeyP.set {w W : World} {l : List Int} (h : RKeyP w W l) (k : Nat) (x : Int) : RKeyP w (W.setCell ⟨w.heap.size + 1, k, none⟩ (.int .u8 x)) (l.set k x) := by
  refine ⟨h.below.setCell (by show w.heap.size ≤ w.heap.size + 1; omega) _, h.out.other (by omega) _, ?_⟩
  have := h.fil.set k (.int .u8 x)
  rwa [bsv_set] at this
theorem fillTo_zero64 (l : List Int) (h : l.length = 64) : fillTo l 0 = List.replicate 64 0 := by simp [fillTo, h]
set_option maxRecDepth 20000 in
set_option maxHeartbeats 4000000 in
theorem refMac_short (pv pt : Option Addr) (N c Nt ct : Nat) (key text : List Int) (w : World) (hx : ArgAt w (.slice pv N c) key ∧ ArgAt w (.slice pt Nt ct) text ∧ (∀ b ∈ key, 0 ≤ b ∧ b < 256) ∧ key.length = N ∧ text.length = Nt ∧ (∀ b ∈ text, 0 ≤ b ∧ b < 256) ∧ N + 200 ≤ 140737488355328 ∧ Nt + 200 ≤ 140737488355328) (hm : N ≤ 64) :
    Calls Tryd.prog 19 #[.slice pv N c, .slice pt Nt ct] w fun e w' => e = .returned (.agg (bsv (hmac key text))) ∧ Below w.heap.size w w' := by
  have HX := hid hx
  have hgt : ¬ (64 : Int) < N := by omega
  have HM := hid hm
  have HKS : Hid (keyB key = fill64 key) := by
    show _ = _
    unfold keyB keyS
    rw [if_neg (by have := hx.2.2.2.1; omega)]
  clear hx hm
  go_enter Tryd.func19, Tryd.ntmps19
  go_wp2
  go_loopw [8] (fun i W => ∃ k : Nat, k ≤ N ∧ i = .int .i64 k ∧ Hid (RKeyP w W (fillTo (fill64 key) k))) (fun i _ => N - (intOf i).toNat)
  case atStart => exact ⟨0, Nat.zero_le _, rfl, by rw [fillTo_zero64 _ (fill64_len _ (by have := HX.out.2.2.2.1; have := HM.out; omega))]; exact rkeyP_start w⟩
  case round =>
    obtain ⟨k, hk, rfl, HP⟩ := hrel
    obtain ⟨V, hV⟩ : ∃ V, V = wr := ⟨_, rfl⟩
    rw [← hV] at HP ⊢
    clear hV
    by_cases hlt : k < N
    · have hlt' : (k : Int) < N := by omega
      have hk64 : (k : Int) < 64 := by have := HM.out; omega
      have hkl : k < key.length := by have := HX.out.2.2.2.1; omega
      obtain ⟨b, o, e1, hb1, hc1⟩ : ∃ b o, pv = some ⟨b, o, none⟩ ∧ b < w.heap.size ∧ CellsAt w b o key := by
        rcases HX.out.1 with ⟨_, h2⟩ | ⟨b, o, cap, h1, h2, _, _, h5⟩
        · rw [h2] at hkl; simp at hkl
        · simp only [Value.slice.injEq] at h2
          exact ⟨b, o, h2.1, h1, h5⟩
      subst e1
      obtain ⟨y, HY⟩ : ∃ y, Hid (key[k]?.getD 0 = y) := ⟨_, hid rfl⟩
      have cs : V.cell? ⟨b, o + k, none⟩ = some (.int .u8 y) := by
        refine (HP.out.below.cell (p := ⟨b, o + k, none⟩) hb1).trans (hc1 k y ?_)
        rw [← HY.out, List.getElem?_eq_getElem hkl]
        rfl
      have hkf : k < (fillTo (fill64 key) k).length := by
        rw [fillTo_len _ _ (by rw [fill64_len _ (by have := HX.out.2.2.2.1; have := HM.out; omega)]; omega), fill64_len _ (by have := HX.out.2.2.2.1; have := HM.out; omega)]
        omega
      have c0 := (HP.out.fil.cell k).trans (bsv_get hkf)
      have f0 := HP.out.fil.fz k
      have HKL := hid hkl
      clear hb1 hc1 hkl hkf
      go_wp2
      go_roundw
      case rel =>
        refine ⟨k + 1, by omega, by go_num, ?_⟩
        have := HP.out.set k y
        rw [← HY.out, take_two_key key k HKL.out] at this
        rw [← HY.out]
        exact this
      case measure => simp [intOf]; omega
    · have hlt' : ¬ (k : Int) < N := by omega
      have HKE : Hid (fillTo (fill64 key) k = keyB key) := by
        show _ = _
        have h1 := HX.out.2.2.2.1
        rw [HKS.out, show k = key.length by omega]
        exact fillTo_key key (by have := HM.out; omega)
      clear hlt hk HKS
      have HKL : Hid ((keyB key).length = 64 ∧ (∀ b ∈ keyB key, 0 ≤ b ∧ b < 256)) := ⟨keyB_len key, keyB_bd key HX.out.2.2.1⟩
      have HR : Hid (Below w.heap.size w V ∧ RowAt V w.heap.size (bsv (List.replicate 32 0)) 24 ∧ RowAt V (w.heap.size + 1) (bsv (keyB key)) 59) := ⟨HP.out.below, HP.out.out, by have := HP.out.fil; rw [HKE.out] at this; exact this⟩
      clear HP HKE
      go_wp2
      go_loopw [9, 10, 11] (fun s1 s2 i W => ∃ (k c1 c2 : Nat) (p1 p2 : Option Addr), k ≤ 64 ∧ s1 = .slice p1 k c1 ∧ s2 = .slice p2 k c2 ∧ i = .int .i64 k ∧ Hid (TwoB V W (keyB key) k p1 p2 c1 c2)) (fun _ _ i _ => 64 - (intOf i).toNat)
      case atStart => exact ⟨0, 0, 0, none, none, Nat.zero_le _, rfl, rfl, rfl, ⟨mineB_nil V, mineB_nil V, fun _ => ⟨rfl, rfl⟩⟩⟩
      case round =>
        obtain ⟨k, c1, c2, p1, p2, hk, rfl, rfl, rfl, HT⟩ := hrel
        obtain ⟨U, hU⟩ : ∃ U, U = wr := ⟨_, rfl⟩
        rw [← hU] at HT ⊢
        clear hU
        by_cases hlt : k < 64
        · have hlt' : (k : Int) < 64 := by omega
          obtain ⟨y, HY⟩ : ∃ y, Hid ((keyB key)[k]?.getD 0 = y) := ⟨_, hid rfl⟩
          have HC : Hid (∀ W, Below V.heap.size V W → W.cell? ⟨w.heap.size + 1, k, none⟩ = some (.int .u8 y)) := fun W hb => by
            rw [← HY.out]
            exact ((HR.out.2.2.below hb).cell k).trans (bsv_get (by rw [HKL.out.1]; exact hlt))
          have c0 := HC.out U HT.out.m1.below
          have HL1 : Hid (((xorB 54 (keyB key)).take k).length = k ∧ ((xorB 92 (keyB key)).take k).length = k) := ⟨by rw [List.length_take, xorB_len, HKL.out.1]; omega, by rw [List.length_take, xorB_len, HKL.out.1]; omega⟩
          go_wp2_with (first
            | (refine wpList_append_two (w0 := V) rfl _ _ rfl p1 k c1 rfl ((xorB 54 (keyB key)).take k) HL1.out.1 (HT.out.m1.next (below_new _ _)) _ rfl [bits .xor .u8 y 54] (one_arg _ _) (k + 1) (by rw [List.length_append, HL1.out.1]; rfl) (by omega) ?_; intro p1' c1' W1 hm1 hg1; rw [← HY.out, xorB_take 54 _ k (by rw [HKL.out.1]; exact hlt)] at hm1; have M2 := hid (two_step1 HT.out HKL.out.1 HKL.out.2 hm1 hg1); have M1 := hid hm1; have HZ : Hid (k = 0 → p2 = none) := (fun h => (HT.out.z h).2); have c1x := HC.out W1 hm1.below; clear hm1 hg1 c0 HT)
            | (refine wpList_append_two (w0 := V) rfl _ _ rfl p2 k c2 rfl ((xorB 92 (keyB key)).take k) HL1.out.2 (M2.out.next (below_new _ _)) _ rfl [bits .xor .u8 y 92] (one_arg _ _) (k + 1) (by rw [List.length_append, HL1.out.2]; rfl) (by omega) ?_; intro p2' c2' W2 hm2 hg2; rw [← HY.out, xorB_take 92 _ k (by rw [HKL.out.1]; exact hlt)] at hm2; have HT2 := hid (two_step2 M1.out M2.out HZ.out HKL.out.1 HKL.out.2 hm2 hg2); clear hm2 hg2 c1x M1 M2))
          go_roundw
          case rel => exact ⟨k + 1, c1', c2', p1', p2', by omega, rfl, rfl, by go_num, HT2⟩
          case measure => simp [intOf]; omega
        · have hlt' : ¬ (k : Int) < 64 := by omega
          obtain rfl : k = 64 := by omega
          have HT1 : Hid (Mine V U p1 c1 (xorB 54 (keyB key)) ∧ Mine V U p2 c2 (xorB 92 (keyB key))) := by
            have h1 := HT.out.m1
            have h2 := HT.out.m2
            rw [List.take_of_length_le (by rw [xorB_len, HKL.out.1]; omega)] at h1 h2
            exact ⟨h1, h2⟩
          have HH : Hid (∀ a b, p1 = some a → p2 = some b → a.block ≠ b.block) := by
            have hb0 : (0 : Int) ≤ (keyB key)[0]?.getD 0 ∧ (keyB key)[0]?.getD 0 < 256 := by
              rw [List.getElem?_eq_getElem (by rw [HKL.out.1]; omega)]
              exact HKL.out.2 _ (List.getElem_mem _)
            exact heads_part HT.out.m1 HT.out.m2 (xorB_head 54 _ 64 (by omega) (by rw [HKL.out.1]; omega)) (xorB_head 92 _ 64 (by omega) (by rw [HKL.out.1]; omega)) (xor_heads _ hb0)
          have HLL : Hid ((xorB 54 (keyB key)).length = 64 ∧ (xorB 92 (keyB key)).length = 64) := ⟨by rw [xorB_len, HKL.out.1], by rw [xorB_len, HKL.out.1]⟩
          obtain ⟨m, HMM⟩ : ∃ m, Hid (xorB 54 (keyB key) ++ text = m) := ⟨_, hid rfl⟩
          have HML : Hid (m.length = 64 + Nt ∧ (∀ b ∈ m, 0 ≤ b ∧ b < 256)) := by
            rw [← HMM.out]
            refine ⟨by rw [List.length_append, HLL.out.1, HX.out.2.2.2.2.1], fun b hb => ?_⟩
            rcases List.mem_append.1 hb with hb | hb
            · exact xorB_bd 54 (by omega) _ HKL.out.2 b hb
            · exact HX.out.2.2.2.2.2.1 b hb
          clear HT
          go_wp2_with (first
            | (refine wpList_append_two (w0 := V) rfl _ _ rfl p1 64 c1 rfl (xorB 54 (keyB key)) HLL.out.1 HT1.out.1 (.slice pt Nt ct) rfl text ((HX.out.2.1.below HR.out.1).below HT1.out.1.below) (64 + Nt) (by rw [HMM.out]; exact HML.out.1) (by have := HX.out; omega) ?_; intro p3 c3 W1 hm1 hg1; rw [HMM.out] at hm1; have M1 := hid hm1; have M2 := hid (mine_kept HT1.out.2 hg1 hm1.below HH.out); clear hm1 hg1 HT1 HH)
            | (go_at_call 8; (with_reducible refine (refSum_any (bs := m) (by have := M1.out.arg; rwa [HML.out.1] at this) HML.out.2 (by have := HX.out; have := HML.out.1; omega)).mono ?_); rintro e W2 ⟨rfl, hb2⟩; have M3 := hid (M2.out.next hb2); clear hb2 M1 M2)
            | (refine wpList_store_as rfl 24 _ _ rfl _ (bsv (sha m)) rfl rfl 24 _ (row_new _ _ _) (by rw [size24, bsv_size, sha_len]) (by rw [bsv_size, sha_len]; rfl) (bsv_one _) ?_; intro W3 hst; have S3 : Hid (Mine V W3 p2 c2 (xorB 92 (keyB key)) ∧ RowAt W3 W2.heap.size (bsv (sha m)) 24) := (⟨M3.out.next (hst.below (below_new W2 _) (Nat.le_refl _)), hst.row⟩); clear hst M3))
          obtain ⟨x, hx⟩ : ∃ x, W2.heap.size = x := ⟨_, rfl⟩
          rw [hx] at S3 ⊢
          clear hx
          go_loopw [10, 13] (fun s i W => ∃ (k c : Nat) (p : Option Addr), k ≤ 32 ∧ s = .slice p (64 + k) c ∧ i = .int .i64 k ∧ Hid (Mine V W p c (xorB 92 (keyB key) ++ (sha m).take k) ∧ RowAt W x (bsv (sha m)) 24)) (fun _ i _ => 32 - (intOf i).toNat)
          case atStart => exact ⟨0, c2, p2, Nat.zero_le _, rfl, rfl, by rw [List.take_zero, List.append_nil]; exact S3⟩
          case round =>
            clear S3
            obtain ⟨k, c, p, hk, rfl, rfl, HS⟩ := hrel
            obtain ⟨Y, hY⟩ : ∃ Y, Y = wr := ⟨_, rfl⟩
            rw [← hY] at HS ⊢
            clear hY
            by_cases hlt : k < 32
            · have hlt' : (k : Int) < 32 := by omega
              obtain ⟨y, HY⟩ : ∃ y, Hid ((sha m)[k]?.getD 0 = y) := ⟨_, hid rfl⟩
              have c0 : Y.cell? ⟨x, k, none⟩ = some (.int .u8 y) := by rw [HS.out.2.cell k, bsv_get (by rw [sha_len]; exact hlt), HY.out]
              have HL1 : Hid ((xorB 92 (keyB key) ++ (sha m).take k).length = 64 + k) := by show _ = _; rw [List.length_append, HLL.out.2, List.length_take, sha_len]; omega
              go_wp2_with (refine wpList_append_two (w0 := V) rfl _ _ rfl p (64 + k) c rfl (xorB 92 (keyB key) ++ (sha m).take k) HL1.out (HS.out.1.next (below_new _ _)) _ rfl [y] (one_arg _ _) (64 + k + 1) (by rw [List.length_append, HL1.out]; rfl) (by omega) ?_; intro p4 c4 W4 hm4 hg4; rw [List.append_assoc, ← HY.out, take_next (sha m) k (by rw [sha_len]; exact hlt)] at hm4; have HS4 : Hid (Mine V W4 p4 c4 (xorB 92 (keyB key) ++ (sha m).take (k + 1)) ∧ RowAt W4 x (bsv (sha m)) 24) := (⟨hm4, (HS.out.2.alloc _).kept (HS.out.1.next (below_new _ _)) (by decide) hg4⟩); clear hm4 hg4)
              go_roundw
              case rel => exact ⟨k + 1, c4, p4, by omega, rfl, by go_num, HS4⟩
              case measure => simp [intOf]; omega
            · have hlt' : ¬ (k : Int) < 32 := by omega
              obtain rfl : k = 32 := by omega
              obtain ⟨z, HZ⟩ : ∃ z, Hid (xorB 92 (keyB key) ++ sha m = z) := ⟨_, hid rfl⟩
              have HS5 : Hid (Mine V Y p c z ∧ z.length = 96 ∧ (∀ b ∈ z, 0 ≤ b ∧ b < 256)) := by
                have h1 := HS.out.1
                rw [List.take_of_length_le (by rw [sha_len]; omega), HZ.out] at h1
                refine ⟨h1, by rw [← HZ.out, List.length_append, HLL.out.2, sha_len], ?_⟩
                rw [← HZ.out]
                intro b hb
                rcases List.mem_append.1 hb with hb | hb
                · exact xorB_bd 92 (by omega) _ HKL.out.2 b hb
                · exact sha_bd _ b hb
              have HE : Hid (hmac key text = sha z) := by
                show _ = _
                unfold hmac hmacK
                rw [HMM.out, HZ.out]
              clear HS
              go_wp2_with (first
                | (go_at_call 8; (with_reducible refine (refSum_any (bs := z) (by have := HS5.out.1.arg; rwa [HS5.out.2.1] at this) HS5.out.2.2 (by rw [HS5.out.2.1]; omega)).mono ?_); rintro e W6 ⟨rfl, hb6⟩; have B6 : Hid (Below w.heap.size w W6 ∧ RowAt W6 w.heap.size (bsv (List.replicate 32 0)) 24) := (by have x1 := HR.out.1; have x2 := x1.trans (HS5.out.1.below.mono x1.size); exact ⟨x2.trans (hb6.mono x2.size), (HR.out.2.1.below HS5.out.1.below).below hb6⟩); clear hb6)
                | (refine wpList_store_row rfl 24 _ _ rfl _ (bsv (sha z)) rfl rfl 24 _ B6.out.2 (by rw [size24, bsv_size, sha_len]) (by rw [bsv_size, bsv_size, sha_len]; simp) (bsv_one _) ?_))
              refine bodyPost_ret (results_cell_row rfl _ _ _ 24 (bsv (sha z)) _ _ rfl (B6.out.2.setRow _) und24 rfl (by rw [size24, bsv_size, sha_len])) rfl ?_
              rw [HE.out]
              exact ⟨rfl, below_setRow B6.out.1 (Nat.le_refl _) _⟩
set_option maxRecDepth 20000 in
set_option maxHeartbeats 4000000 in
theorem refMac_long (pv pt : Option Addr) (N c Nt ct : Nat) (key text : List Int) (w : World) (hx : ArgAt w (.slice pv N c) key ∧ ArgAt w (.slice pt Nt ct) text ∧ (∀ b ∈ key, 0 ≤ b ∧ b < 256) ∧ key.length = N ∧ text.length = Nt ∧ (∀ b ∈ text, 0 ≤ b ∧ b < 256) ∧ N + 200 ≤ 140737488355328 ∧ Nt + 200 ≤ 140737488355328) (hm : 64 < N) :
    Calls Tryd.prog 19 #[.slice pv N c, .slice pt Nt ct] w fun e w' => e = .returned (.agg (bsv (hmac key text))) ∧ Below w.heap.size w w' := by
  have HX := hid hx
  have hgt : (64 : Int) < N := by omega
  have HKS : Hid (keyB key = fill64 (sha key)) := by
    show _ = _
    unfold keyB keyS
    rw [if_pos (by have := hx.2.2.2.1; omega)]
  have P0 := hid (rkeyP_start w)
  have HSL : Hid ((sha key).length = 32 ∧ (fill64 (sha key)).length = 64) := ⟨sha_len _, fill64_len _ (by rw [sha_len]; omega)⟩
  clear hx hm
  go_enter Tryd.func19, Tryd.ntmps19
  go_wp2_with (first
    | (go_at_call 8; (refine (refSum_any (bs := key) (by exact HX.out.1.below P0.out.below) HX.out.2.2.1 (by have := HX.out; omega)).mono ?_); rintro e w1 ⟨rfl, hb1⟩; have P1 := hid (P0.out.next hb1); clear hb1 P0)
    | (refine wpList_store_as rfl 24 _ _ rfl _ (bsv (sha key)) rfl rfl 24 _ (row_new _ _ _) (by rw [size24, bsv_size, sha_len]) (by rw [bsv_size, sha_len]; rfl) (bsv_one _) ?_; intro w2 hst; have P2 : Hid (RKeyP w w2 (List.replicate 64 0) ∧ RowAt w2 w1.heap.size (bsv (sha key)) 24 ∧ w.heap.size + 1 < w1.heap.size) := (⟨P1.out.next (hst.below (below_new w1 _) (Nat.le_refl _)), hst.row, P1.out.fil.lt⟩); clear hst P1))
  obtain ⟨x, hx⟩ : ∃ x, w1.heap.size = x := ⟨_, rfl⟩
  rw [hx] at P2 ⊢
  clear hx
  go_loopw [7] (fun i W => ∃ k : Nat, k ≤ 32 ∧ i = .int .i64 k ∧ Hid (RKeyP w W (fillTo (fill64 (sha key)) k) ∧ RowAt W x (bsv (sha key)) 24 ∧ w.heap.size + 1 < x)) (fun i _ => 32 - (intOf i).toNat)
  case atStart => exact ⟨0, Nat.zero_le _, rfl, by rw [fillTo_zero64 _ HSL.out.2]; exact P2⟩
  case round =>
    clear P2
    obtain ⟨k, hk, rfl, HPx⟩ := hrel
    obtain ⟨V, hV⟩ : ∃ V, V = wr := ⟨_, rfl⟩
    rw [← hV] at HPx ⊢
    clear hV
    by_cases hlt : k < 32
    · have hlt' : (k : Int) < 32 := by omega
      obtain ⟨y, HY⟩ : ∃ y, Hid ((sha key)[k]?.getD 0 = y) := ⟨_, hid rfl⟩
      have cs : V.cell? ⟨x, k, none⟩ = some (.int .u8 y) := by rw [HPx.out.2.1.cell k, bsv_get (by rw [sha_len]; exact hlt), HY.out]
      have c0 := (HPx.out.1.fil.cell k).trans (bsv_get (by rw [fillTo_len _ _ (by rw [HSL.out.2]; omega), HSL.out.2]; omega))
      have f0 := HPx.out.1.fil.fz k
      go_wp2
      go_roundw
      case rel =>
        refine ⟨k + 1, by omega, by go_num, ?_⟩
        have := HPx.out.1.set k y
        rw [← HY.out, take_two_key (sha key) k (by rw [sha_len]; exact hlt)] at this
        rw [← HY.out]
        exact ⟨this, HPx.out.2.1.other (by have := HPx.out.2.2; omega) _, HPx.out.2.2⟩
      case measure => simp [intOf]; omega
    · have hlt' : ¬ (k : Int) < 32 := by omega
      obtain rfl : k = 32 := by omega
      have HKE : Hid (fillTo (fill64 (sha key)) 32 = keyB key) := by
        show _ = _
        have h1 := fillTo_key (sha key) (by rw [sha_len]; omega)
        rw [sha_len] at h1
        rw [HKS.out]
        exact h1
      have HP : Hid (RKeyP w V (fillTo (fill64 (sha key)) 32)) := HPx.out.1
      clear hlt hk HKS HPx
      have HKL : Hid ((keyB key).length = 64 ∧ (∀ b ∈ keyB key, 0 ≤ b ∧ b < 256)) := ⟨keyB_len key, keyB_bd key HX.out.2.2.1⟩
      have HR : Hid (Below w.heap.size w V ∧ RowAt V w.heap.size (bsv (List.replicate 32 0)) 24 ∧ RowAt V (w.heap.size + 1) (bsv (keyB key)) 59) := ⟨HP.out.below, HP.out.out, by have := HP.out.fil; rw [HKE.out] at this; exact this⟩
      clear HP HKE
      go_wp2
      go_loopw [9, 10, 11] (fun s1 s2 i W => ∃ (k c1 c2 : Nat) (p1 p2 : Option Addr), k ≤ 64 ∧ s1 = .slice p1 k c1 ∧ s2 = .slice p2 k c2 ∧ i = .int .i64 k ∧ Hid (TwoB V W (keyB key) k p1 p2 c1 c2)) (fun _ _ i _ => 64 - (intOf i).toNat)
      case atStart => exact ⟨0, 0, 0, none, none, Nat.zero_le _, rfl, rfl, rfl, ⟨mineB_nil V, mineB_nil V, fun _ => ⟨rfl, rfl⟩⟩⟩
      case round =>
        obtain ⟨k, c1, c2, p1, p2, hk, rfl, rfl, rfl, HT⟩ := hrel
        obtain ⟨U, hU⟩ : ∃ U, U = wr := ⟨_, rfl⟩
        rw [← hU] at HT ⊢
        clear hU
        by_cases hlt : k < 64
        · have hlt' : (k : Int) < 64 := by omega
          obtain ⟨y, HY⟩ : ∃ y, Hid ((keyB key)[k]?.getD 0 = y) := ⟨_, hid rfl⟩
          have HC : Hid (∀ W, Below V.heap.size V W → W.cell? ⟨w.heap.size + 1, k, none⟩ = some (.int .u8 y)) := fun W hb => by
            rw [← HY.out]
            exact ((HR.out.2.2.below hb).cell k).trans (bsv_get (by rw [HKL.out.1]; exact hlt))
          have c0 := HC.out U HT.out.m1.below
          have HL1 : Hid (((xorB 54 (keyB key)).take k).length = k ∧ ((xorB 92 (keyB key)).take k).length = k) := ⟨by rw [List.length_take, xorB_len, HKL.out.1]; omega, by rw [List.length_take, xorB_len, HKL.out.1]; omega⟩
          go_wp2_with (first
            | (refine wpList_append_two (w0 := V) rfl _ _ rfl p1 k c1 rfl ((xorB 54 (keyB key)).take k) HL1.out.1 (HT.out.m1.next (below_new _ _)) _ rfl [bits .xor .u8 y 54] (one_arg _ _) (k + 1) (by rw [List.length_append, HL1.out.1]; rfl) (by omega) ?_; intro p1' c1' W1 hm1 hg1; rw [← HY.out, xorB_take 54 _ k (by rw [HKL.out.1]; exact hlt)] at hm1; have M2 := hid (two_step1 HT.out HKL.out.1 HKL.out.2 hm1 hg1); have M1 := hid hm1; have HZ : Hid (k = 0 → p2 = none) := (fun h => (HT.out.z h).2); have c1x := HC.out W1 hm1.below; clear hm1 hg1 c0 HT)
            | (refine wpList_append_two (w0 := V) rfl _ _ rfl p2 k c2 rfl ((xorB 92 (keyB key)).take k) HL1.out.2 (M2.out.next (below_new _ _)) _ rfl [bits .xor .u8 y 92] (one_arg _ _) (k + 1) (by rw [List.length_append, HL1.out.2]; rfl) (by omega) ?_; intro p2' c2' W2 hm2 hg2; rw [← HY.out, xorB_take 92 _ k (by rw [HKL.out.1]; exact hlt)] at hm2; have HT2 := hid (two_step2 M1.out M2.out HZ.out HKL.out.1 HKL.out.2 hm2 hg2); clear hm2 hg2 c1x M1 M2))
          go_roundw
          case rel => exact ⟨k + 1, c1', c2', p1', p2', by omega, rfl, rfl, by go_num, HT2⟩
          case measure => simp [intOf]; omega
        · have hlt' : ¬ (k : Int) < 64 := by omega
          obtain rfl : k = 64 := by omega
          have HT1 : Hid (Mine V U p1 c1 (xorB 54 (keyB key)) ∧ Mine V U p2 c2 (xorB 92 (keyB key))) := by
            have h1 := HT.out.m1
            have h2 := HT.out.m2
            rw [List.take_of_length_le (by rw [xorB_len, HKL.out.1]; omega)] at h1 h2
            exact ⟨h1, h2⟩
          have HH : Hid (∀ a b, p1 = some a → p2 = some b → a.block ≠ b.block) := by
            have hb0 : (0 : Int) ≤ (keyB key)[0]?.getD 0 ∧ (keyB key)[0]?.getD 0 < 256 := by
              rw [List.getElem?_eq_getElem (by rw [HKL.out.1]; omega)]
              exact HKL.out.2 _ (List.getElem_mem _)
            exact heads_part HT.out.m1 HT.out.m2 (xorB_head 54 _ 64 (by omega) (by rw [HKL.out.1]; omega)) (xorB_head 92 _ 64 (by omega) (by rw [HKL.out.1]; omega)) (xor_heads _ hb0)
          have HLL : Hid ((xorB 54 (keyB key)).length = 64 ∧ (xorB 92 (keyB key)).length = 64) := ⟨by rw [xorB_len, HKL.out.1], by rw [xorB_len, HKL.out.1]⟩
          obtain ⟨m, HMM⟩ : ∃ m, Hid (xorB 54 (keyB key) ++ text = m) := ⟨_, hid rfl⟩
          have HML : Hid (m.length = 64 + Nt ∧ (∀ b ∈ m, 0 ≤ b ∧ b < 256)) := by
            rw [← HMM.out]
            refine ⟨by rw [List.length_append, HLL.out.1, HX.out.2.2.2.2.1], fun b hb => ?_⟩
            rcases List.mem_append.1 hb with hb | hb
            · exact xorB_bd 54 (by omega) _ HKL.out.2 b hb
            · exact HX.out.2.2.2.2.2.1 b hb
          clear HT
          go_wp2_with (first
            | (refine wpList_append_two (w0 := V) rfl _ _ rfl p1 64 c1 rfl (xorB 54 (keyB key)) HLL.out.1 HT1.out.1 (.slice pt Nt ct) rfl text ((HX.out.2.1.below HR.out.1).below HT1.out.1.below) (64 + Nt) (by rw [HMM.out]; exact HML.out.1) (by have := HX.out; omega) ?_; intro p3 c3 W1 hm1 hg1; rw [HMM.out] at hm1; have M1 := hid hm1; have M2 := hid (mine_kept HT1.out.2 hg1 hm1.below HH.out); clear hm1 hg1 HT1 HH)
            | (go_at_call 8; (with_reducible refine (refSum_any (bs := m) (by have := M1.out.arg; rwa [HML.out.1] at this) HML.out.2 (by have := HX.out; have := HML.out.1; omega)).mono ?_); rintro e W2 ⟨rfl, hb2⟩; have M3 := hid (M2.out.next hb2); clear hb2 M1 M2)
            | (refine wpList_store_as rfl 24 _ _ rfl _ (bsv (sha m)) rfl rfl 24 _ (row_new _ _ _) (by rw [size24, bsv_size, sha_len]) (by rw [bsv_size, sha_len]; rfl) (bsv_one _) ?_; intro W3 hst; have S3 : Hid (Mine V W3 p2 c2 (xorB 92 (keyB key)) ∧ RowAt W3 W2.heap.size (bsv (sha m)) 24) := (⟨M3.out.next (hst.below (below_new W2 _) (Nat.le_refl _)), hst.row⟩); clear hst M3))
          obtain ⟨x, hx⟩ : ∃ x, W2.heap.size = x := ⟨_, rfl⟩
          rw [hx] at S3 ⊢
          clear hx
          go_loopw [10, 13] (fun s i W => ∃ (k c : Nat) (p : Option Addr), k ≤ 32 ∧ s = .slice p (64 + k) c ∧ i = .int .i64 k ∧ Hid (Mine V W p c (xorB 92 (keyB key) ++ (sha m).take k) ∧ RowAt W x (bsv (sha m)) 24)) (fun _ i _ => 32 - (intOf i).toNat)
          case atStart => exact ⟨0, c2, p2, Nat.zero_le _, rfl, rfl, by rw [List.take_zero, List.append_nil]; exact S3⟩
          case round =>
            clear S3
            obtain ⟨k, c, p, hk, rfl, rfl, HS⟩ := hrel
            obtain ⟨Y, hY⟩ : ∃ Y, Y = wr := ⟨_, rfl⟩
            rw [← hY] at HS ⊢
            clear hY
            by_cases hlt : k < 32
            · have hlt' : (k : Int) < 32 := by omega
              obtain ⟨y, HY⟩ : ∃ y, Hid ((sha m)[k]?.getD 0 = y) := ⟨_, hid rfl⟩
              have c0 : Y.cell? ⟨x, k, none⟩ = some (.int .u8 y) := by rw [HS.out.2.cell k, bsv_get (by rw [sha_len]; exact hlt), HY.out]
              have HL1 : Hid ((xorB 92 (keyB key) ++ (sha m).take k).length = 64 + k) := by show _ = _; rw [List.length_append, HLL.out.2, List.length_take, sha_len]; omega
              go_wp2_with (refine wpList_append_two (w0 := V) rfl _ _ rfl p (64 + k) c rfl (xorB 92 (keyB key) ++ (sha m).take k) HL1.out (HS.out.1.next (below_new _ _)) _ rfl [y] (one_arg _ _) (64 + k + 1) (by rw [List.length_append, HL1.out]; rfl) (by omega) ?_; intro p4 c4 W4 hm4 hg4; rw [List.append_assoc, ← HY.out, take_next (sha m) k (by rw [sha_len]; exact hlt)] at hm4; have HS4 : Hid (Mine V W4 p4 c4 (xorB 92 (keyB key) ++ (sha m).take (k + 1)) ∧ RowAt W4 x (bsv (sha m)) 24) := (⟨hm4, (HS.out.2.alloc _).kept (HS.out.1.next (below_new _ _)) (by decide) hg4⟩); clear hm4 hg4)
              go_roundw
              case rel => exact ⟨k + 1, c4, p4, by omega, rfl, by go_num, HS4⟩
              case measure => simp [intOf]; omega
            · have hlt' : ¬ (k : Int) < 32 := by omega
              obtain rfl : k = 32 := by omega
              obtain ⟨z, HZ⟩ : ∃ z, Hid (xorB 92 (keyB key) ++ sha m = z) := ⟨_, hid rfl⟩
              have HS5 : Hid (Mine V Y p c z ∧ z.length = 96 ∧ (∀ b ∈ z, 0 ≤ b ∧ b < 256)) := by
                have h1 := HS.out.1
                rw [List.take_of_length_le (by rw [sha_len]; omega), HZ.out] at h1
                refine ⟨h1, by rw [← HZ.out, List.length_append, HLL.out.2, sha_len], ?_⟩
                rw [← HZ.out]
                intro b hb
                rcases List.mem_append.1 hb with hb | hb
                · exact xorB_bd 92 (by omega) _ HKL.out.2 b hb
                · exact sha_bd _ b hb
              have HE : Hid (hmac key text = sha z) := by
                show _ = _
                unfold hmac hmacK
                rw [HMM.out, HZ.out]
              clear HS
              go_wp2_with (first
                | (go_at_call 8; (with_reducible refine (refSum_any (bs := z) (by have := HS5.out.1.arg; rwa [HS5.out.2.1] at this) HS5.out.2.2 (by rw [HS5.out.2.1]; omega)).mono ?_); rintro e W6 ⟨rfl, hb6⟩; have B6 : Hid (Below w.heap.size w W6 ∧ RowAt W6 w.heap.size (bsv (List.replicate 32 0)) 24) := (by have x1 := HR.out.1; have x2 := x1.trans (HS5.out.1.below.mono x1.size); exact ⟨x2.trans (hb6.mono x2.size), (HR.out.2.1.below HS5.out.1.below).below hb6⟩); clear hb6)
                | (refine wpList_store_row rfl 24 _ _ rfl _ (bsv (sha z)) rfl rfl 24 _ B6.out.2 (by rw [size24, bsv_size, sha_len]) (by rw [bsv_size, bsv_size, sha_len]; simp) (bsv_one _) ?_))
              refine bodyPost_ret (results_cell_row rfl _ _ _ 24 (bsv (sha z)) _ _ rfl (B6.out.2.setRow _) und24 rfl (by rw [size24, bsv_size, sha_len])) rfl ?_
              rw [HE.out]
              exact ⟨rfl, below_setRow B6.out.1 (Nat.le_refl _) _⟩
theorem refMac_any {w : World} {v u : Value} {key text : List Int} (ha : ArgAt w v key) (hb : ArgAt w u text) (hk : ∀ b ∈ key, 0 ≤ b ∧ b < 256) (ht : ∀ b ∈ text, 0 ≤ b ∧ b < 256) (hm : key.length + 200 ≤ 140737488355328) (hn : text.length + 200 ≤ 140737488355328) :
    Calls Tryd.prog 19 #[v, u] w fun e w' => e = .returned (.agg (bsv (hmac key text))) ∧ Below w.heap.size w w' := by
  obtain ⟨pv, N, c, rfl, e1⟩ : ∃ pv N c, v = .slice pv N c ∧ key.length = N := by
    rcases ha with ⟨rfl, rfl⟩ | ⟨b, o, cap, h1, rfl, _⟩
    · exact ⟨_, _, _, rfl, rfl⟩
    · exact ⟨_, _, _, rfl, rfl⟩
  obtain ⟨pt, Nt, ct, rfl, e2⟩ : ∃ pv N c, u = .slice pv N c ∧ text.length = N := by
    rcases hb with ⟨rfl, rfl⟩ | ⟨b, o, cap, h1, rfl, _⟩
    · exact ⟨_, _, _, rfl, rfl⟩
    · exact ⟨_, _, _, rfl, rfl⟩
  by_cases h : 64 < N
  · exact refMac_long pv pt N c Nt ct key text w ⟨ha, hb, hk, e1, e2, ht, by omega, by omega⟩ h
  · exact refMac_short pv pt N c Nt ct key text w ⟨ha, hb, hk, e1, e2, ht, by omega, by omega⟩ (by omega)
end Go.Proofs.YtojcaoieodogdaaDoor
