/- Keys as blocks, and a sum to which a key came, of package mac. -/
import Derived.Test.YtojcaoieodogdaaDoorLens
namespace Go.Proofs.YtojcaoieodogdaaDoor
open Go.RowKit

def fill64 (l : List Int) : List Int := l ++ List.replicate (64 - l.length) 0
def keyS (k : List Int) : List Int := if 64 < k.length then sha k else k
def keyB (k : List Int) : List Int := fill64 (keyS k)
def xorB (x : Int) (l : List Int) : List Int := l.map fun b => bits .xor .u8 b x
def hmacK (kb m : List Int) : List Int := sha (xorB 92 kb ++ sha (xorB 54 kb ++ m))
def hmac (k m : List Int) : List Int := hmacK (keyB k) m
theorem keyS_len (k : List Int) : (keyS k).length ≤ 64 := by
  unfold keyS
  split
  · rw [sha_len]; omega
  · omega
theorem fill64_len (l : List Int) (h : l.length ≤ 64) : (fill64 l).length = 64 := by simp [fill64]; omega
theorem keyB_len (k : List Int) : (keyB k).length = 64 := fill64_len _ (keyS_len k)
theorem xorB_len (x : Int) (l : List Int) : (xorB x l).length = l.length := by simp [xorB]
theorem hmacK_len (kb m : List Int) : (hmacK kb m).length = 32 := sha_len _
theorem hmac_len (k m : List Int) : (hmac k m).length = 32 := sha_len _
theorem fill_splice_n (n : Nat) (cs : List Int) : (splice (bsv (List.replicate n 0)).toList 0 (cs.map (Value.int .u8))).toArray = bsv (cs ++ List.replicate (n - cs.length) 0) := by
  unfold splice bsv
  congr 1
  simp
theorem fill_splice (cs : List Int) : (splice (bsv (List.replicate 64 0)).toList 0 (cs.map (Value.int .u8))).toArray = bsv (fill64 cs) := fill_splice_n 64 cs
theorem wpList_copy_arg {w : World} {ops : Array Oper} {rest : List Oper} {o : Oper} {a : Act} {Q : Exit → Act → World → Prop} (hgd : o.guard = none) (d s : Operand)
    (ho : o.op = .call { callee := .builtin .copy, args := #[d, s], argTypes := #[22, 22] })
    (g off dLen dCap : Nat) (hd : a.eval d = .slice (some ⟨g, off, none⟩) dLen dCap) (v : Value) (hs : a.eval s = v) (cs : List Int) (hv : ArgAt w v cs) (hle : cs.length ≤ dLen)
    (cur : Array Value) (t : TypeId) (hg : RowAt w g cur t) (hfit : off + cs.length ≤ cur.size)
    (h : ∀ w', Stored g (splice cur.toList off (cs.map (Value.int .u8))).toArray t w w' → wpList Tryd.prog ops Q rest (a.put o.dst (.int .i64 cs.length)) w') : wpList Tryd.prog ops Q (o :: rest) a w := by
  rcases hv with ⟨rfl, rfl⟩ | ⟨b, q, cap, h1, rfl, h3, h4, h5⟩
  · refine wpList_copy_nothing hgd d s 22 22 ho 5 (by kernel_rfl) (by kernel_rfl) _ _ _ _ _ _ hd hs (by simp) ?_
    exact h w ⟨by simpa [splice] using hg, fun _ _ => rfl, rfl, rfl, rfl, rfl⟩
  · exact wpList_copy_at hgd d s ho g off dLen dCap b q cs.length cap hd hs cur t hg cs (by simp only [Nat.min_def]; split <;> omega) h5 hfit cs.length rfl h
theorem row_argT {w : World} {b n : Nat} {t : TypeId} {l : List Int} (h : RowAt w b (bsv l) t) (hl : l.length = n) (hm : n ≤ maxLen) : ArgAt w (.slice (some ⟨b, 0, none⟩) n n) l := by
  subst hl
  refine .inr ⟨b, 0, l.length, h.lt, rfl, Nat.le_refl _, hm, fun j v hj => ?_⟩
  rw [Nat.zero_add, h.cell j]
  simp [bsv, hj]
theorem off_ne {h b o n c : Nat} (hb : b ≠ h) : Off h (.slice (some ⟨b, o, none⟩) n c) := by
  intro a n' c' e
  simp only [Value.slice.injEq, Option.some.injEq] at e
  rw [← e.1]
  exact hb
/-- In block: the answer's cell and what is filled. -/
structure KeyP (w W : World) (l : List Int) : Prop where
  below : Below w.heap.size w W
  out : RowAt W w.heap.size (bsv (List.replicate 64 0)) 59
  fil : RowAt W (w.heap.size + 1) (bsv l) 59
theorem KeyP.next {w W W' : World} {l : List Int} (h : KeyP w W l) (hb : Below W.heap.size W W') : KeyP w W' l := ⟨h.below.trans (hb.mono h.below.size), h.out.below hb, h.fil.below hb⟩
theorem keyP_start (w : World) : KeyP w ((w.alloc (.cells (bsv (List.replicate 64 0)) 59)).alloc (.cells (bsv (List.replicate 64 0)) 59)) (List.replicate 64 0) :=
  ⟨((Below.refl _ _).alloc (Nat.le_refl _) _).alloc (by simp) _, (row_new _ _ _).alloc _, row_new2 _ _ _ _⟩
theorem KeyP.copied {w W W' : World} {cs : List Int} (h : KeyP w W (List.replicate 64 0)) (_hc : cs.length ≤ 64) (hst : Stored (w.heap.size + 1) (splice (bsv (List.replicate 64 0)).toList 0 (cs.map (Value.int .u8))).toArray 59 W W') : KeyP w W' (fill64 cs) := by
  rw [fill_splice cs] at hst
  exact ⟨hst.below h.below (by omega), (hst.other _ (by omega)).trans h.out, hst.row⟩
set_option maxRecDepth 20000 in
set_option maxHeartbeats 2000000 in
theorem block_short (pv : Option Addr) (N c : Nat) (key : List Int) (w : World) (ha : ArgAt w (.slice pv N c) key) (hN : key.length = N) (hm : N ≤ 64) :
    Calls Tryd.prog 47 #[.slice pv N c] w fun e w' => e = .returned (.agg (bsv (keyB key))) ∧ Below w.heap.size w w' := by
  have HA := hid ha
  have HN := hid hN
  have HM := hid hm
  have hlt : ¬ (64 : Int) < N := by omega
  have HE : Hid (keyB key = fill64 key) := by
    show _ = _
    unfold keyB keyS
    rw [if_neg (by omega)]
  have HP := hid (keyP_start w)
  clear ha hN hm
  go_enter Tryd.func47, Tryd.ntmps47
  go_wp2_with (first
    | (refine wpList_copy_arg rfl _ _ rfl (w.heap.size + 1) 0 64 64 rfl (.slice pv N c) rfl key (HA.out.below HP.out.below) (by have := HN.out; have := HM.out; omega) _ 59 HP.out.fil (by rw [bsv_size]; have := HN.out; have := HM.out; simp; omega) ?_; intro W1 hst; have HP1 := hid (HP.out.copied (by have := HN.out; have := HM.out; omega) hst); clear hst HP)
    | (refine wpList_load_row rfl 59 _ rfl _ rfl 59 (bsv (fill64 key)) _ _ HP1.out.fil und35 rfl (by rw [size35, bsv_size, fill64_len _ (by have := HN.out; have := HM.out; omega)]) ?_)
    | (refine wpList_store_row rfl 59 _ _ rfl _ (bsv (fill64 key)) rfl rfl 59 _ HP1.out.out (by rw [size35, bsv_size, fill64_len _ (by have := HN.out; have := HM.out; omega)]) (by rw [bsv_size, bsv_size, fill64_len _ (by have := HN.out; have := HM.out; omega)]; simp) (bsv_one _) ?_))
  refine bodyPost_ret (results_cell_row rfl _ _ _ 59 (bsv (fill64 key)) _ _ rfl (HP1.out.out.setRow _) und35 rfl (by rw [size35, bsv_size, fill64_len _ (by have := HN.out; have := HM.out; omega)])) rfl ?_
  rw [HE.out]
  exact ⟨rfl, below_setRow HP1.out.below (Nat.le_refl _) _⟩
theorem KeyP.stored {w W W' : World} {l S : List Int} {z : Array Value} (h : KeyP w W l) (hst : Stored W.heap.size (bsv S) 24 (W.alloc (.cells z 24)) W') : KeyP w W' l ∧ RowAt W' W.heap.size (bsv S) 24 :=
  ⟨h.next (hst.below (below_new W _) (Nat.le_refl _)), hst.row⟩
set_option maxRecDepth 20000 in
set_option maxHeartbeats 2000000 in
theorem block_long (pv : Option Addr) (N c : Nat) (key : List Int) (w : World) (hK : KAt w) (ha : ArgAt w (.slice pv N c) key) (hN : key.length = N) (hm : 64 < N) (hm2 : N ≤ 140737488355328) :
    Calls Tryd.prog 47 #[.slice pv N c] w fun e w' => e = .returned (.agg (bsv (keyB key))) ∧ Below w.heap.size w w' := by
  have HK := hid hK
  have HA := hid ha
  have HN := hid hN
  have HM := hid hm2
  have hlt : (64 : Int) < N := by omega
  have HE : Hid (keyB key = fill64 (sha key)) := by
    show _ = _
    unfold keyB keyS
    rw [if_pos (by omega)]
  have HL : Hid ((sha key).length ≤ 64 ∧ (fill64 (sha key)).length = 64) := ⟨by rw [sha_len]; omega, fill64_len _ (by rw [sha_len]; omega)⟩
  have HP := hid (keyP_start w)
  clear ha hN hm hK hm2
  go_enter Tryd.func47, Tryd.ntmps47
  go_wp2_with (first
    | (go_at_call 10; (refine (sum_any (bs := key) (by exact HK.out.below HP.out.below) (by exact HA.out.below HP.out.below) (by have := HN.out; have := HM.out; omega)).mono ?_); rintro e w1 ⟨rfl, hb1⟩; have HP1 := hid (HP.out.next hb1); clear hb1 HP)
    | (refine wpList_store_as rfl 24 _ _ rfl _ (bsv (sha key)) rfl rfl 24 _ (row_new _ _ _) (by rw [size24, bsv_size, sha_len]) (by rw [bsv_size, sha_len]; rfl) (bsv_one _) ?_; intro w2 hst; have HP2 := hid (HP1.out.stored hst); clear hst HP1)
    | (refine wpList_copy_arg rfl _ _ rfl (w.heap.size + 1) 0 64 64 rfl (.slice (some ⟨w1.heap.size, 0, none⟩) 32 32) rfl (sha key) (row_argT HP2.out.2 (sha_len _) (by unfold maxLen; omega)) HL.out.1 _ 59 HP2.out.1.fil (by rw [bsv_size]; have := HL.out.1; simp; omega) ?_; intro W1 hst; have HP3 := hid (HP2.out.1.copied HL.out.1 hst); clear hst HP2)
    | (refine wpList_load_row rfl 59 _ rfl _ rfl 59 (bsv (fill64 (sha key))) _ _ HP3.out.fil und35 rfl (by rw [size35, bsv_size, HL.out.2]) ?_)
    | (refine wpList_store_row rfl 59 _ _ rfl _ (bsv (fill64 (sha key))) rfl rfl 59 _ HP3.out.out (by rw [size35, bsv_size, HL.out.2]) (by rw [bsv_size, bsv_size, HL.out.2]; simp) (bsv_one _) ?_))
  refine bodyPost_ret (results_cell_row rfl _ _ _ 59 (bsv (fill64 (sha key))) _ _ rfl (HP3.out.out.setRow _) und35 rfl (by rw [size35, bsv_size, HL.out.2])) rfl ?_
  rw [HE.out]
  exact ⟨rfl, below_setRow HP3.out.below (Nat.le_refl _) _⟩
theorem block_any {w : World} {v : Value} {key : List Int} (hK : KAt w) (ha : ArgAt w v key) (hm : key.length ≤ 140737488355328) :
    Calls Tryd.prog 47 #[v] w fun e w' => e = .returned (.agg (bsv (keyB key))) ∧ Below w.heap.size w w' := by
  rcases ha with ⟨rfl, rfl⟩ | ⟨b, o, cap, h1, rfl, h3, h4, h5⟩
  · exact block_short none 0 0 [] w (.inl ⟨rfl, rfl⟩) rfl (by omega)
  · have ha : ArgAt w (.slice (some ⟨b, o, none⟩) key.length cap) key := .inr ⟨b, o, cap, h1, rfl, h3, h4, h5⟩
    by_cases h : 64 < key.length
    · exact block_long _ _ _ key w hK ha rfl h hm
    · exact block_short _ _ _ key w ha rfl (by omega)
/-- The first k bytes xored. -/
def xorTo (x : Int) (l : List Int) (k : Nat) : List Int := (xorB x l).take k ++ l.drop k
theorem xorTo_len (x : Int) (l : List Int) (k : Nat) (h : k ≤ l.length) : (xorTo x l k).length = l.length := by simp [xorTo, xorB]; omega
theorem xorTo_at (x : Int) (l : List Int) (k : Nat) (h : k < l.length) : (xorTo x l k)[k]?.getD 0 = l[k]?.getD 0 := by
  unfold xorTo
  rw [List.getElem?_append_right (by simp [xorB]; omega)]
  simp [xorB, Nat.min_eq_left (Nat.le_of_lt h)]
theorem xorTo_set (x : Int) (l : List Int) (k : Nat) (h : k < l.length) : (xorTo x l k).set k (bits .xor .u8 (l[k]?.getD 0) x) = xorTo x l (k + 1) := by
  have e : (xorB x l).take (k + 1) = (xorB x l).take k ++ [bits .xor .u8 (l[k]?.getD 0) x] := by
    rw [List.take_succ_eq_append_getElem (by rw [xorB_len]; exact h)]
    simp [xorB, h]
  unfold xorTo
  rw [e, List.set_append_right _ _ (by simp [xorB]; omega), List.append_assoc]
  congr 1
  have hl : ((xorB x l).take k).length = k := by simp [xorB]; omega
  rw [hl, Nat.sub_self]
  rw [List.drop_eq_getElem_cons h]
  rfl
structure BegP (w W : World) (l : List Int) : Prop where
  below : Below w.heap.size w W
  row : RowAt W w.heap.size (bsv l) 59
set_option maxRecDepth 20000 in
set_option maxHeartbeats 2000000 in
theorem begun_any (kb : List Int) (hl : kb.length = 64) (x : Int) (w : World) (hK : KAt w) :
    Calls Tryd.prog 48 #[.agg (bsv kb), .int .u8 x] w fun e w' => ∃ h, e = .returned (.pointer (some ⟨h, 0, none⟩)) ∧ w.heap.size ≤ h ∧ HoldsH w' h (xorB x kb) ∧ Below w.heap.size w w' := by
  have HK := hid hK
  have HL := hid hl
  clear hK hl
  go_enter Tryd.func48, Tryd.ntmps48
  go_wp2
  go_loopw [7] (fun i W => ∃ k : Nat, k ≤ 64 ∧ i = .int .i64 k ∧ Hid (BegP w W (xorTo x kb k))) (fun i _ => 64 - (intOf i).toNat)
  case atStart => exact ⟨0, Nat.zero_le _, rfl, ⟨below_new _ _, by simpa [xorTo] using row_new w (bsv kb) 59⟩⟩
  case round =>
    obtain ⟨k, hk, rfl, HP⟩ := hrel
    obtain ⟨V, hV⟩ : ∃ V, V = wr := ⟨_, rfl⟩
    rw [← hV] at HP ⊢
    clear hV
    by_cases hlt : k < 64
    · have hlt' : (k : Int) < 64 := by omega
      have c0 := (HP.out.row.cell k).trans (bsv_get (by rw [xorTo_len _ _ _ (by rw [HL.out]; omega), HL.out]; exact hlt))
      rw [xorTo_at _ _ _ (by rw [HL.out]; exact hlt)] at c0
      have f0 := HP.out.row.fz k
      obtain ⟨y, HY⟩ : ∃ y, Hid (kb[k]?.getD 0 = y) := ⟨_, hid rfl⟩
      rw [HY.out] at c0
      go_wp2
      go_roundw
      case rel =>
        refine ⟨k + 1, by omega, by go_num, HP.out.below.setCell (Nat.le_refl _) _, ?_⟩
        have := HP.out.row.set k (.int .u8 (bits .xor .u8 y x))
        rw [bsv_set, ← HY.out, xorTo_set _ _ _ (by rw [HL.out]; exact hlt)] at this
        rw [← HY.out]
        exact this
      case measure => simp [intOf]; omega
    · have hlt' : ¬ (k : Int) < 64 := by omega
      obtain rfl : k = 64 := by omega
      have HP2 : Hid (BegP w V (xorB x kb)) := by
        have h := HP.out
        have e : xorTo x kb 64 = xorB x kb := by
          unfold xorTo
          rw [List.take_of_length_le (by rw [xorB_len, HL.out]; omega), List.drop_of_length_le (by rw [HL.out]; omega), List.append_nil]
        rw [e] at h
        exact h
      clear HP hk hlt
      go_wp2_with (first
        | (go_at_call 9; (with_reducible refine (new_any _).mono ?_); rintro e w1 ⟨h, rfl, hh, H, hb⟩; have N1 : Hid (V.heap.size ≤ h ∧ HoldsH w1 h [] ∧ Below V.heap.size V w1) := ⟨hh, ⟨_, _, H, hashed_none⟩, hb⟩; clear hh H hb)
        | (go_at_call 13; (with_reducible refine (write_any (bs := xorB x kb) N1.out.2.1 ((HK.out.below HP2.out.below).below N1.out.2.2) (by have := N1.out.1; have := HP2.out.row.lt; omega) (row_argT (n := 64) (HP2.out.row.below N1.out.2.2) (by rw [xorB_len, HL.out]) (by unfold maxLen; omega)) (off_ne (by have := N1.out.1; have := HP2.out.row.lt; omega)) (by rw [xorB_len, HL.out]; simp only [List.length_nil]; omega)).mono ?_); rintro e w2 ⟨rfl, hh2, ht2⟩; rw [List.nil_append] at hh2; have N2 : Hid (HoldsH w2 h (xorB x kb) ∧ Turn h w1 w2) := ⟨hh2, ht2⟩; clear hh2 ht2))
      go_ret
      have hz := HP2.out.below.size
      have b1 : Below w.heap.size w w1 := HP2.out.below.trans (N1.out.2.2.mono hz)
      exact ⟨h, rfl, by have := N1.out.1; omega, N2.out.1, b1.trans (N2.out.2.below b1.size (by have := N1.out.1; omega))⟩
end Go.Proofs.YtojcaoieodogdaaDoor
