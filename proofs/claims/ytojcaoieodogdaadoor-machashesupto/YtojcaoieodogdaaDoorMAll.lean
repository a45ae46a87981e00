/- The hash of a row of texts: package mac's and the document's. -/
import Derived.Test.YtojcaoieodogdaaDoorMHash
import Derived.Test.YtojcaoieodogdaaDoorRPad
import Derived.Test.YtojcaoieodogdaaDoorLens
import Derived.Lib.AppendStr
import Derived.Lib.Bytes
namespace Go.Proofs.YtojcaoieodogdaaDoor
open Go.RowKit

/-- A slice of texts that lies in memory. -/
def StrsAt (w : World) (v : Value) (L : List ByteArray) : Prop :=
  (v = .slice none 0 0 ∧ L = []) ∨ ∃ b o cap, b < w.heap.size ∧ v = .slice (some ⟨b, o, none⟩) L.length cap ∧ L.length ≤ cap ∧ cap ≤ maxLen ∧ ∀ j s, L[j]? = some s → w.cell? ⟨b, o + j, none⟩ = some (.string s)
theorem StrsAt.below {w w' : World} {v : Value} {L : List ByteArray} (h : StrsAt w v L) (hb : Below w.heap.size w w') : StrsAt w' v L := by
  rcases h with h | ⟨b, o, cap, h1, h2, h3, h4, h5⟩
  · exact .inl h
  · exact .inr ⟨b, o, cap, Nat.lt_of_lt_of_le h1 hb.size, h2, h3, h4, fun j s hj => (hb.cell (p := ⟨b, o + j, none⟩) h1).trans (h5 j s hj)⟩
theorem StrsAt.form {w : World} {v : Value} {L : List ByteArray} (h : StrsAt w v L) : ∃ pv N c, v = .slice pv N c ∧ L.length = N := by
  rcases h with ⟨rfl, rfl⟩ | ⟨b, o, cap, _, rfl, _⟩
  · exact ⟨_, _, _, rfl, rfl⟩
  · exact ⟨_, _, _, rfl, rfl⟩
theorem StrsAt.cell {w : World} {pv : Option Addr} {N c : Nat} {L : List ByteArray} (h : StrsAt w (.slice pv N c) L) (hN : L.length = N) (k : Nat) (hk : k < N) : ∃ b o s, pv = some ⟨b, o, none⟩ ∧ L[k]? = some s ∧ w.cell? ⟨b, o + k, none⟩ = some (.string s) := by
  rcases h with ⟨_, h2⟩ | ⟨b, o, cap, _, h2, _, _, h5⟩
  · subst h2; simp at hN; omega
  · simp only [Value.slice.injEq] at h2
    have hk' : k < L.length := by omega
    exact ⟨b, o, L[k], h2.1, List.getElem?_eq_getElem hk', h5 k _ (List.getElem?_eq_getElem hk')⟩
theorem info9 : (Tryd.prog.info? 9).map (fun i => (i.zero, i.size, i.bytes)) = some (some (.string { data := #[] }), 1, 16) := by kernel_rfl
/-- append(nil, l...) of texts. -/
theorem wpList_append_strs {w : World} {ops : Array Oper} {rest : List Oper} {o : Oper} {a : Act} {Q : Exit → Act → World → Prop} (hgd : o.guard = none) (s x : Operand)
    (ho : o.op = .call { callee := .builtin .append, args := #[s, x], argTypes := #[39, 39] })
    (hs : a.eval s = .slice none 0 0) (v : Value) (hx : a.eval x = v) (L : List ByteArray) (hv : StrsAt w v L) (hlen : L.length ≤ 1048576)
    (h : ∀ v' w', StrsAt w' v' L → Below w.heap.size w w' → wpList Tryd.prog ops Q rest (a.put o.dst v') w') : wpList Tryd.prog ops Q (o :: rest) a w := by
  obtain ⟨i, h2, h3, h4, h5⟩ := info_parts info9
  have hu : Tryd.prog.underlying 39 = some (.slice 9) := by kernel_rfl
  have hnil := World.ownsRow_nil w w.heap.size 9 1
  rcases hv with ⟨rfl, rfl⟩ | ⟨b, q, cap, h6, rfl, h7, h8, h9⟩
  · refine wpList_append_own_none hgd s x 39 ho w.heap.size 9 i 1 hu h2 _ _ _ hs hnil hx ?_
    exact h _ w (.inl ⟨rfl, rfl⟩) (Below.refl _ _)
  · refine wpList_append_own w hgd s x 39 ho w.heap.size 9 i (.string { data := #[] }) 1 16 hu h2 h3 h4 h5 rfl (by decide) _ _ _ hs hnil ⟨b, q, none⟩ L.length cap (L.map Value.string) hx (by simp)
      (by
        intro j u hj
        simp only [List.getElem?_map, Option.map_eq_some_iff] at hj
        obtain ⟨y, hy, rfl⟩ := hj
        have hplain : (⟨b, q, none⟩ : Addr).add j = ⟨b, q + j, none⟩ := by unfold Addr.add; split <;> simp_all
        rw [hplain]
        exact h9 j y hy) (fun u hu => by obtain ⟨y, _, rfl⟩ := List.mem_map.1 hu; rfl) (by unfold maxLen; omega) (by omega) (Nat.le_refl _) ?_
    intro v' w' hown hgrow _
    have hb : Below w.heap.size w w' := (Below.refl _ _).grown hgrow (Nat.le_refl _) (fun k hk => by simp [Value.ownBlock] at hk)
    rw [Nat.zero_add, List.nil_append] at hown
    refine h v' w' ?_ hb
    obtain ⟨_, h10⟩ := hown
    rcases h10 with ⟨rfl, h0⟩ | ⟨g, cap', cur, rfl, h3', h4', h5', h6', h7', h8'⟩
    · exact .inl ⟨rfl, List.eq_nil_of_length_eq_zero h0⟩
    · refine .inr ⟨g, 0, cap', lt_of_heap h4', rfl, h5', h6', fun j y hj => ?_⟩
      have hlt : j < L.length := (List.getElem?_eq_some_iff.1 hj).1
      have e : (cur.toList.take (L.length * 1))[j]? = some (.string y) := by rw [h8']; simp [hj]
      rw [List.getElem?_take, if_pos (by omega)] at e
      simp only [World.cell?, h4', Nat.zero_add]
      simpa using e
def hashA (L : List ByteArray) : Int := L.foldl (fun n s => mix64 (hashL n s.data.toList) 0) 14695981039346656037
theorem hashA_snoc (L : List ByteArray) (k : Nat) (s : ByteArray) (h : L[k]? = some s) : hashA (L.take (k + 1)) = mix64 (hashL (hashA (L.take k)) s.data.toList) 0 := by
  have hk : k < L.length := (List.getElem?_eq_some_iff.1 h).1
  have e : L[k] = s := (List.getElem?_eq_some_iff.1 h).2
  rw [List.take_succ_eq_append_getElem hk, e]
  simp [hashA, List.foldl_append]
set_option maxHeartbeats 1000000 in
theorem mhashAll_core (pv : Option Addr) (N c : Nat) (L : List ByteArray) (w : World) (hv : StrsAt w (.slice pv N c) L) (hN : L.length = N) (hz : ∀ s ∈ L, s.size ≤ maxLen) (hM : N ≤ 1048576) :
    Calls Tryd.prog 27 #[.slice pv N c] w fun e w' => e = .returned (.int .u64 (hashA L)) ∧ w' = w := by
  have HV := hid hv
  have HN := hid hN
  have HZ := hid hz
  have hNb : (N : Int) ≤ 1048576 := by omega
  clear hv hN hz hM
  go_enter Tryd.func27, Tryd.ntmps27
  go_wp2
  go_loop [3, 8] (fun v i => ∃ (k : Nat) (m : Int), k ≤ N ∧ v = .int .u64 m ∧ i = .int .i64 k ∧ Hid (hashA (L.take k) = m)) (fun _ i => N - (intOf i).toNat)
  case atStart => exact ⟨0, _, Nat.zero_le _, rfl, rfl, rfl⟩
  case round =>
    obtain ⟨k, m, hk, rfl, rfl, HM⟩ := hrel
    by_cases hlt : k < N
    · have hlt' : (k : Int) < N := by omega
      obtain ⟨b, o, s, rfl, hs, c0⟩ := HV.out.cell HN.out k hlt
      have HS : Hid (L[k]? = some s ∧ s.size ≤ maxLen) := ⟨hs, HZ.out s (List.mem_of_getElem? hs)⟩
      clear hs
      go_wp2_with (first
        | (go_at_call 45; (with_reducible refine (hashed_any m s _ HS.out.2).mono ?_); rintro e w' ⟨rfl, rfl⟩)
        | (go_at_call 46; (refine (mixed64_any _ 0 (by decide) _).mono ?_); rintro e w' ⟨rfl, rfl⟩))
      go_round
      case rel => exact ⟨k + 1, _, by omega, rfl, by go_num, by rw [hashA_snoc L k s HS.out.1, HM.out]; rfl⟩
      case measure => simp [intOf]; omega
    · have hlt' : ¬ (k : Int) < N := by omega
      go_wp2
      go_ret
      refine ⟨?_, rfl⟩
      have e := HM.out
      rw [List.take_of_length_le (by rw [HN.out]; omega)] at e
      rw [e]
      rfl
theorem mhashAll_any {w : World} {v : Value} {L : List ByteArray} (hv : StrsAt w v L) (hz : ∀ s ∈ L, s.size ≤ maxLen) (hM : L.length ≤ 1048576) :
    Calls Tryd.prog 27 #[v] w fun e w' => e = .returned (.int .u64 (hashA L)) ∧ w' = w := by
  obtain ⟨pv, N, c, rfl, hN⟩ := hv.form
  exact mhashAll_core pv N c L w hv hN hz (by omega)
def intsOf (s : ByteArray) : List Int := s.data.toList.map fun b => (b.toNat : Int)
theorem intsOf_len (s : ByteArray) : (intsOf s).length = s.size := by simp [intsOf]
def outOf (L : List ByteArray) : List Int := L.flatMap fun s => intsOf s ++ [0]
theorem outOf_snoc (L : List ByteArray) (k : Nat) (s : ByteArray) (h : L[k]? = some s) : outOf (L.take (k + 1)) = outOf (L.take k) ++ intsOf s ++ [0] := by
  have hk : k < L.length := (List.getElem?_eq_some_iff.1 h).1
  have e : L[k] = s := (List.getElem?_eq_some_iff.1 h).2
  rw [List.take_succ_eq_append_getElem hk, e]
  simp [outOf, List.flatMap_append, List.append_assoc]
theorem outOf_le (L : List ByteArray) (k : Nat) : (outOf (L.take k)).length ≤ (outOf L).length := by
  have e : outOf L = outOf (L.take k) ++ outOf (L.drop k) := by
    unfold outOf
    rw [← List.flatMap_append, List.take_append_drop]
  rw [e, List.length_append]
  omega
theorem hashL_app (n : Int) (a b : List UInt8) : hashL n (a ++ b) = hashL (hashL n a) b := by simp [hashL, List.foldl_append]
theorem back_ints (l : List UInt8) : (l.map fun b => (b.toNat : Int)).map (fun n : Int => UInt8.ofNat n.toNat) = l := by
  rw [List.map_map]
  conv => rhs; rw [← List.map_id l]
  apply List.map_congr_left
  intro b _
  simp
theorem hash_outOf (L : List ByteArray) : hashL 14695981039346656037 (strOfNums (outOf L)).data.toList = hashA L := by
  rw [strOfNums_data]
  have key : ∀ (L : List ByteArray) (n : Int), hashL n ((outOf L).map fun n => UInt8.ofNat n.toNat) = L.foldl (fun n s => mix64 (hashL n s.data.toList) 0) n := by
    intro L
    induction L with
    | nil => intro n; rfl
    | cons s L ih =>
      intro n
      have e : outOf (s :: L) = intsOf s ++ [0] ++ outOf L := by simp [outOf]
      rw [e, List.map_append, List.map_append, hashL_app, hashL_app]
      unfold intsOf
      rw [back_ints, ih]
      rfl
  exact key L _
/-- append(out, s...) of a text. -/
theorem wpList_append_text {ops : Array Oper} {rest : List Oper} {o : Oper} {a : Act} {w0 w : World} {Q : Exit → Act → World → Prop} (hgd : o.guard = none) (sl x : Operand)
    (ho : o.op = .call { callee := .builtin .append, args := #[sl, x], argTypes := #[22, 9] })
    (pa : Option Addr) (N cap : Nat) (hs : a.eval sl = .slice pa N cap) (q : List Int) (hN : q.length = N) (hm : Mine w0 w pa cap q) (s : ByteArray) (hx : a.eval x = .string s) (M : Nat) (hM : (q ++ intsOf s).length = M) (hlen : M ≤ 140737488355328)
    (h : ∀ pa' cap' w', Mine w0 w' pa' cap' (q ++ intsOf s) → wpList Tryd.prog ops Q rest (a.put o.dst (.slice pa' M cap')) w') : wpList Tryd.prog ops Q (o :: rest) a w := by
  subst hM
  subst hN
  obtain ⟨i, h2, h3, h4, h5⟩ := info_parts info5
  have hown := hm.owns
  have hsz := hm.below.size
  have hlen' : q.length + s.size ≤ 140737488355328 := by rw [List.length_append, intsOf_len] at hlen; exact hlen
  refine Lib.wpList_append_own_string w hgd sl x 22 9 ho w0.heap.size 5 i (by kernel_rfl) (by kernel_rfl) h2 h3 h4 h5 _ _ _ hs hown s hx (by unfold maxLen; omega) hlen' hsz ?_
  intro v' w' hown' hgrow _
  have hb : Below w0.heap.size w0 w' := hm.below.grown hgrow hsz (fun k hk => (hown.lt k hk).1)
  have e : q.map (Value.int .u8) ++ Lib.strCells s = (q ++ intsOf s).map (Value.int .u8) := by simp [Lib.strCells, intsOf]
  rw [e, show q.length + s.size = (q ++ intsOf s).length by rw [List.length_append, intsOf_len]] at hown'
  obtain ⟨pa', cap', rfl, hm'⟩ := mine_of hown' hb
  exact h pa' cap' w' hm'
set_option maxRecDepth 20000 in
set_option maxHeartbeats 2000000 in
theorem refHashAll_core (pv : Option Addr) (N c : Nat) (L : List ByteArray) (w : World) (hv : StrsAt w (.slice pv N c) L) (hN : L.length = N) (hM : N ≤ 1048576) (hO : (outOf L).length ≤ 4194304) :
    Calls Tryd.prog 28 #[.slice pv N c] w fun e w' => e = .returned (.int .u64 (hashA L)) ∧ Below w.heap.size w w' := by
  have HV := hid hv
  have HN := hid hN
  have HO := hid hO
  have hNb : (N : Int) ≤ 1048576 := by omega
  clear hv hN hM hO
  go_enter Tryd.func28, Tryd.ntmps28
  go_wp2
  go_loopw [3, 4] (fun v i W => ∃ (k T c : Nat) (pa : Option Addr), k ≤ N ∧ v = .slice pa T c ∧ i = .int .i64 k ∧ T ≤ 4194304 ∧ Hid ((outOf (L.take k)).length = T) ∧ Hid (Mine w W pa c (outOf (L.take k)))) (fun _ i _ => N - (intOf i).toNat)
  case atStart => exact ⟨0, 0, 0, none, Nat.zero_le _, rfl, rfl, by omega, rfl, mineB_nil w⟩
  case round =>
    obtain ⟨k, T, c', pa, hk, rfl, rfl, hT, HT, HM⟩ := hrel
    obtain ⟨V, hV⟩ : ∃ V, V = wr := ⟨_, rfl⟩
    rw [← hV] at HM ⊢
    clear hV
    by_cases hlt : k < N
    · have hlt' : (k : Int) < N := by omega
      obtain ⟨b, o, s, rfl, hs, c0⟩ := (HV.out.below HM.out.below).cell HN.out k hlt
      have HS := hid hs
      have hle : T + s.size + 1 ≤ 4194304 := by
        have h1 := outOf_le L (k + 1)
        rw [outOf_snoc L k s hs, List.length_append, List.length_append, HT.out, intsOf_len] at h1
        have := HO.out
        simp only [List.length_cons, List.length_nil] at h1
        omega
      have HLE := hid hle
      have HL2 : Hid ((outOf (L.take k) ++ intsOf s).length = T + s.size) := by show _ = _; rw [List.length_append, HT.out, intsOf_len]
      clear hs hle
      go_wp2_with (first
        | (refine wpList_append_text (w0 := w) rfl _ _ rfl pa T c' rfl (outOf (L.take k)) HT.out HM.out s rfl (T + s.size) HL2.out (by have := HLE.out; omega) ?_; intro p1 c1 W1 hm1; have M1 := hid hm1; clear hm1)
        | (refine wpList_append_to (w0 := w) rfl _ _ rfl p1 (T + s.size) c1 rfl (outOf (L.take k) ++ intsOf s) HL2.out (M1.out.next (below_new _ _)) _ rfl [0] (one_arg _ _) (T + s.size + 1) (by rw [List.length_append, HL2.out]; rfl) (by have := HLE.out; omega) ?_; intro p2 c2 W2 hm2; have M2 := hid hm2; clear hm2))
      go_roundw
      case rel =>
        refine ⟨k + 1, T + s.size + 1, c2, p2, by omega, rfl, by go_num, HLE.out, ?_, ?_⟩
        · show _ = _
          rw [outOf_snoc L k s HS.out, List.length_append, HL2.out]
          rfl
        · rw [outOf_snoc L k s HS.out]
          exact M2
      case measure => simp [intOf]; omega
    · have hlt' : ¬ (k : Int) < N := by omega
      obtain ⟨S, HSS⟩ : ∃ S, Hid (strOfNums (outOf L) = S) := ⟨_, hid rfl⟩
      have hm := HM.out
      have ht := HT.out
      rw [List.take_of_length_le (by rw [HN.out]; omega)] at hm ht
      have hcv := hm.arg.conv
      rw [ht, HSS.out] at hcv
      have HSZ : Hid (S.size ≤ maxLen) := by show _ ≤ _; rw [← HSS.out, strOfNums_size, ht]; unfold maxLen; omega
      have HB := hid hm.below
      have HE : Hid (hashL 14695981039346656037 S.data.toList = hashA L) := by rw [← HSS.out]; exact hash_outOf L
      clear hm ht HM HT
      go_wp2_with (go_at_call 26; (with_reducible refine (refHash_any S _ HSZ.out).mono ?_); rintro e w' ⟨rfl, hw'⟩; have hw2 := hw'.symm; subst hw2; rw [HE.out])
      go_ret
      exact ⟨rfl, HB.out⟩
theorem refHashAll_any {w : World} {v : Value} {L : List ByteArray} (hv : StrsAt w v L) (hM : L.length ≤ 1048576) (hO : (outOf L).length ≤ 4194304) :
    Calls Tryd.prog 28 #[v] w fun e w' => e = .returned (.int .u64 (hashA L)) ∧ Below w.heap.size w w' := by
  obtain ⟨pv, N, c, rfl, hN⟩ := hv.form
  exact refHashAll_core pv N c L w hv hN (by omega) hO
end Go.Proofs.YtojcaoieodogdaaDoor
