/- The hash and the bytes of a number: package mac's and the document's. -/
import Derived.Test.YtojcaoieodogdaaDoorMKey
namespace Go.Proofs.YtojcaoieodogdaaDoor
open Go.RowKit

def mix64 (n b : Int) : Int := IntKind.u64.wrap (bits .xor .u64 n b * 1099511628211)
def hashL (n : Int) (l : List UInt8) : Int := l.foldl (fun n b => mix64 n (b.toNat : Int)) n
theorem hashL_snoc (n : Int) (s : ByteArray) (k : Nat) (h : k < s.size) : hashL n (s.data.toList.take (k + 1)) = mix64 (hashL n (s.data.toList.take k)) (s[k].toNat : Int) := by
  have h' : k < s.data.toList.length := by simpa using h
  rw [List.take_succ_eq_append_getElem h']
  simp [hashL, List.foldl_append]
  rfl
theorem hashL_all (n : Int) (s : ByteArray) (k : Nat) (h : ¬ k < s.size) : hashL n (s.data.toList.take k) = hashL n s.data.toList := by
  rw [List.take_of_length_le (by have : s.data.toList.length = s.size := by simp
                                 omega)]
theorem mixed64_any (n : Int) (b : Nat) (hb : b < 256) (w : World) : Calls Tryd.prog 46 #[.int .u64 n, .int .u8 b] w fun e w' => e = .returned (.int .u64 (mix64 n b)) ∧ w' = w := by
  have hb' : (b : Int) < 256 := by omega
  go_enter Tryd.func46, Tryd.ntmps46
  go_wp2
  go_ret
  exact ⟨rfl, rfl⟩
set_option maxHeartbeats 1000000 in
theorem hashed_any (n : Int) (s : ByteArray) (w : World) (hs : s.size ≤ maxLen) : Calls Tryd.prog 45 #[.int .u64 n, .string s] w fun e w' => e = .returned (.int .u64 (hashL n s.data.toList)) ∧ w' = w := by
  unfold maxLen at hs
  go_enter Tryd.func45, Tryd.ntmps45
  go_wp2
  go_loop [0, 8] (fun v i => ∃ (k : Nat) (m : Int), k ≤ s.size ∧ v = .int .u64 m ∧ i = .int .i64 k ∧ Hid (hashL n (s.data.toList.take k) = m)) (fun _ i => s.size - (intOf i).toNat)
  case atStart => exact ⟨0, n, Nat.zero_le _, rfl, rfl, rfl⟩
  case round =>
    obtain ⟨k, m, hk, rfl, rfl, HM⟩ := hrel
    by_cases hlt : k < s.size
    · have hb := s[k].toNat_lt
      go_wp2_with (go_at_call 46; (with_reducible refine (mixed64_any m _ hb _).mono ?_); rintro e w' ⟨rfl, rfl⟩)
      go_round
      case rel => exact ⟨k + 1, _, by omega, rfl, by go_num, by rw [hashL_snoc n s k hlt, HM.out]; rfl⟩
      case measure => simp [intOf]; omega
    · go_wp2
      go_ret
      refine ⟨?_, rfl⟩
      rw [← hashL_all n s k hlt, HM.out]
      rfl
theorem mhash_any (s : ByteArray) (w : World) (hs : s.size ≤ maxLen) : Calls Tryd.prog 25 #[.string s] w fun e w' => e = .returned (.int .u64 (hashL 14695981039346656037 s.data.toList)) ∧ w' = w := by
  have HS := hid hs
  clear hs
  go_enter Tryd.func25, Tryd.ntmps25
  go_wp2_with (go_at_call 45; (with_reducible refine (hashed_any _ s _ HS.out).mono ?_); rintro e w' ⟨rfl, rfl⟩)
  go_ret
  exact ⟨rfl, rfl⟩
set_option maxHeartbeats 1000000 in
theorem refHash_any (s : ByteArray) (w : World) (hs : s.size ≤ maxLen) : Calls Tryd.prog 26 #[.string s] w fun e w' => e = .returned (.int .u64 (hashL 14695981039346656037 s.data.toList)) ∧ w' = w := by
  unfold maxLen at hs
  go_enter Tryd.func26, Tryd.ntmps26
  go_wp2
  go_loop [3, 4] (fun v i => ∃ (k : Nat) (m : Int), k ≤ s.size ∧ v = .int .u64 m ∧ i = .int .i64 k ∧ Hid (hashL 14695981039346656037 (s.data.toList.take k) = m)) (fun _ i => s.size - (intOf i).toNat)
  case atStart => exact ⟨0, _, Nat.zero_le _, rfl, rfl, rfl⟩
  case round =>
    obtain ⟨k, m, hk, rfl, rfl, HM⟩ := hrel
    by_cases hlt : k < s.size
    · have hb := s[k].toNat_lt
      go_wp2
      go_round
      case rel => exact ⟨k + 1, _, by omega, rfl, by go_num, by rw [hashL_snoc _ s k hlt, HM.out]; rfl⟩
      case measure => simp [intOf]; omega
    · go_wp2
      go_ret
      refine ⟨?_, rfl⟩
      rw [← hashL_all _ s k hlt, HM.out]
      rfl
theorem und43 : Tryd.prog.underlying 43 = some (.array 8 5) := by kernel_rfl
theorem size43 : (Tryd.prog.info? 43).map (·.size) = some 8 := by kernel_rfl
def bytes8 (n : Int) : List Int := (List.range 8).map fun i => n / 2 ^ (56 - 8 * i) % 256
theorem bytes8_len (n : Int) : (bytes8 n).length = 8 := by simp [bytes8]
theorem bytes8_at (n : Int) (k : Nat) (h : k < 8) : (bytes8 n)[k]?.getD 0 = n / 2 ^ (56 - 8 * k) % 256 := by simp [bytes8, h]
structure Byt8 (w W : World) (l : List Int) : Prop where
  below : Below w.heap.size w W
  out : RowAt W w.heap.size (bsv (List.replicate 8 0)) 43
  row : RowAt W (w.heap.size + 1) (bsv l) 43
theorem byt8_start (w : World) : Byt8 w ((w.alloc (.cells (bsv (List.replicate 8 0)) 43)).alloc (.cells (bsv (List.replicate 8 0)) 43)) (List.replicate 8 0) :=
  ⟨((Below.refl _ _).alloc (Nat.le_refl _) _).alloc (by simp) _, (row_new _ _ _).alloc _, row_new2 _ _ _ _⟩
theorem Byt8.set {w W : World} {l : List Int} (h : Byt8 w W l) (k : Nat) (x : Int) : Byt8 w (W.setCell ⟨w.heap.size + 1, k, none⟩ (.int .u8 x)) (l.set k x) := by
  refine ⟨h.below.setCell (by show w.heap.size ≤ w.heap.size + 1; omega) _, h.out.other (by omega) _, ?_⟩
  have := h.row.set k (.int .u8 x)
  rwa [bsv_set] at this
set_option maxRecDepth 20000 in
set_option maxHeartbeats 1000000 in
theorem mbytes_any (n : Nat) (hn : n < 18446744073709551616) (w : World) : Calls Tryd.prog 29 #[.int .u64 n] w fun e w' => e = .returned (.agg (bsv (bytes8 n))) ∧ Below w.heap.size w w' := by
  have HN := hid hn
  clear hn
  go_enter Tryd.func29, Tryd.ntmps29
  go_wp2
  go_loopw [5] (fun i W => ∃ k : Nat, k ≤ 8 ∧ i = .int .i64 k ∧ Hid (Byt8 w W (fillTo (bytes8 n) k))) (fun i _ => 8 - (intOf i).toNat)
  case atStart =>
    refine ⟨0, Nat.zero_le _, rfl, ?_⟩
    have e : fillTo (bytes8 n) 0 = List.replicate 8 0 := by simp [fillTo, bytes8_len]
    rw [e]
    exact byt8_start w
  case round =>
    obtain ⟨k, hk, rfl, HP⟩ := hrel
    obtain ⟨V, hV⟩ : ∃ V, V = wr := ⟨_, rfl⟩
    rw [← hV] at HP ⊢
    clear hV
    by_cases hlt : k < 8
    · have hlt' : (k : Int) < 8 := by omega
      have c0 := (HP.out.row.cell k).trans (bsv_get (by rw [fillTo_len _ _ (by rw [bytes8_len]; omega), bytes8_len]; exact hlt))
      have f0 := HP.out.row.fz k
      go_wp2
      go_roundw
      case rel =>
        refine ⟨k + 1, by omega, by go_num, ?_⟩
        have := HP.out.set k ((n : Int) / 2 ^ (56 - 8 * k) % 256)
        rw [← bytes8_at n k hlt, fillTo_set _ _ (by rw [bytes8_len]; exact hlt)] at this
        rw [← bytes8_at n k hlt]
        exact this
      case measure => simp [intOf]; omega
    · have hlt' : ¬ (k : Int) < 8 := by omega
      have hs := HP.out.row
      rw [fillTo_all _ _ (by rw [bytes8_len]; omega)] at hs
      have HS := hid hs
      clear hs
      go_wp2_with (first
        | (refine wpList_load_row rfl 43 _ rfl _ rfl 43 (bsv (bytes8 n)) _ _ HS.out und43 rfl (by rw [size43, bsv_size, bytes8_len]) ?_)
        | (refine wpList_store_row rfl 43 _ _ rfl _ (bsv (bytes8 n)) rfl rfl 43 _ HP.out.out (by rw [size43, bsv_size, bytes8_len]) (by rw [bsv_size, bsv_size, bytes8_len]; simp) (bsv_one _) ?_))
      refine bodyPost_ret (results_cell_row rfl _ _ _ 43 (bsv (bytes8 n)) _ _ rfl (HP.out.out.setRow _) und43 rfl (by rw [size43, bsv_size, bytes8_len])) rfl ?_
      exact ⟨rfl, below_setRow HP.out.below (Nat.le_refl _) _⟩
/-- l from k on, noughts ahead. -/
def fillFrom (l : List Int) (k : Nat) : List Int := List.replicate k 0 ++ l.drop k
theorem fillFrom_len (l : List Int) (k : Nat) (h : k ≤ l.length) : (fillFrom l k).length = l.length := by simp [fillFrom]; omega
theorem fillFrom_set (l : List Int) (k : Nat) (h : k < l.length) : (fillFrom l (k + 1)).set k (l[k]?.getD 0) = fillFrom l k := by
  unfold fillFrom
  rw [List.replicate_succ', List.append_assoc, List.set_append_right _ _ (by simp)]
  simp only [List.length_replicate, Nat.sub_self, List.singleton_append, List.set_cons_zero]
  rw [List.drop_eq_getElem_cons h]
  simp [h]
theorem div_pow (n k : Nat) (h : k < 8) : n / 256 ^ (7 - k) / 256 = n / 256 ^ (8 - k) := by
  rw [Nat.div_div_eq_div_mul, ← Nat.pow_succ, show (7 - k).succ = 8 - k by omega]
theorem byte_pow (n k : Nat) (h : k < 8) : ((n / 256 ^ (7 - k) : Nat) : Int) % 256 = (bytes8 n)[k]?.getD 0 := by
  rw [bytes8_at n k h]
  have e : (256 : Nat) ^ (7 - k) = 2 ^ (56 - 8 * k) := by
    rw [show (256 : Nat) = 2 ^ 8 by decide, ← Nat.pow_mul]
    congr 1
    omega
  rw [e]
  push_cast
  rfl
set_option maxRecDepth 20000 in
set_option maxHeartbeats 1000000 in
theorem refBytes_any (n : Nat) (hn : n < 18446744073709551616) (w : World) : Calls Tryd.prog 30 #[.int .u64 n] w fun e w' => e = .returned (.agg (bsv (bytes8 n))) ∧ Below w.heap.size w w' := by
  have HN := hid hn
  go_enter Tryd.func30, Tryd.ntmps30
  go_wp2
  go_loopw [0, 4] (fun v i W => ∃ k q : Nat, k ≤ 8 ∧ v = .int .u64 q ∧ i = .int .i64 ((k : Int) - 1) ∧ q ≤ n ∧ Hid (q = n / 256 ^ (8 - k)) ∧ Hid (Byt8 w W (fillFrom (bytes8 n) k))) (fun _ i _ => (intOf i + 1).toNat)
  case atStart =>
    refine ⟨8, n, Nat.le_refl _, rfl, rfl, Nat.le_refl _, by show _ = _; simp, ?_⟩
    have e : fillFrom (bytes8 n) 8 = List.replicate 8 0 := by
      unfold fillFrom
      rw [List.drop_of_length_le (by rw [bytes8_len]; omega), List.append_nil]
    rw [e]
    exact byt8_start w
  case round =>
    obtain ⟨k, q, hk, rfl, rfl, hq, HQ, HP⟩ := hrel
    obtain ⟨V, hV⟩ : ∃ V, V = wr := ⟨_, rfl⟩
    rw [← hV] at HP ⊢
    clear hV
    by_cases hlt : 0 < k
    · obtain ⟨j, rfl⟩ : ∃ j, k = j + 1 := ⟨k - 1, by omega⟩
      have hj : j < 8 := by omega
      have hj' : (j : Int) < 8 := by omega
      have hq64 : (q : Int) < 18446744073709551616 := by have := HN.out; omega
      rw [show (((j + 1 : Nat) : Int) - 1) = (j : Int) by omega]
      have c0 := (HP.out.row.cell j).trans (bsv_get (by rw [fillFrom_len _ _ (by rw [bytes8_len]; omega), bytes8_len]; exact hj))
      have f0 := HP.out.row.fz j
      clear hn
      go_wp2
      go_roundw
      case rel =>
        refine ⟨j, q / 256, by omega, by go_num, rfl, Nat.le_trans (Nat.div_le_self _ _) hq, ?_, ?_⟩
        · show _ = _
          rw [HQ.out, show 8 - (j + 1) = 7 - j by omega]
          exact div_pow n j hj
        · have := HP.out.set j ((q : Int) % 256)
          have e : (q : Int) % 256 = (bytes8 n)[j]?.getD 0 := by
            rw [HQ.out, show 8 - (j + 1) = 7 - j by omega]
            exact byte_pow n j hj
          rw [e, fillFrom_set _ _ (by rw [bytes8_len]; exact hj)] at this
          rw [e]
          exact this
      case measure => first | (simp [intOf]; done) | (simp [intOf]; omega)
    · obtain rfl : k = 0 := by omega
      have hs := HP.out.row
      rw [show fillFrom (bytes8 n) 0 = bytes8 n by simp [fillFrom]] at hs
      have HS := hid hs
      clear hs hn
      go_wp2_with (first
        | (refine wpList_load_row rfl 43 _ rfl _ rfl 43 (bsv (bytes8 n)) _ _ HS.out und43 rfl (by rw [size43, bsv_size, bytes8_len]) ?_)
        | (refine wpList_store_row rfl 43 _ _ rfl _ (bsv (bytes8 n)) rfl rfl 43 _ HP.out.out (by rw [size43, bsv_size, bytes8_len]) (by rw [bsv_size, bsv_size, bytes8_len]; simp) (bsv_one _) ?_))
      refine bodyPost_ret (results_cell_row rfl _ _ _ 43 (bsv (bytes8 n)) _ _ rfl (HP.out.out.setRow _) und43 rfl (by rw [size43, bsv_size, bytes8_len])) rfl ?_
      exact ⟨rfl, below_setRow HP.out.below (Nat.le_refl _) _⟩
end Go.Proofs.YtojcaoieodogdaaDoor
