/- What must come whatever the input is: a known code, known hashes, known bytes. -/
import Derived.Test.YtojcaoieodogdaaDoorMVer
import Derived.Test.YtojcaoieodogdaaDoorMHash
namespace Go.Proofs.YtojcaoieodogdaaDoor
open Go.RowKit

def foxK : List Int := [107, 101, 121]
def foxT : List Int := [84, 104, 101, 32, 113, 117, 105, 99, 107, 32, 98, 114, 111, 119, 110, 32, 102, 111, 120, 32, 106, 117, 109, 112, 115, 32, 111, 118, 101, 114, 32, 116, 104, 101, 32, 108, 97, 122, 121, 32, 100, 111, 103]
set_option maxRecDepth 100000 in
theorem fox : hmac foxK foxT = [247, 188, 131, 244, 48, 83, 132, 36, 177, 50, 152, 230, 170, 111, 177, 67, 239, 77, 89, 161, 73, 70, 23, 89, 151, 71, 157, 188, 45, 26, 60, 216] := by decide +kernel
theorem hash_none : hashL 14695981039346656037 (ByteArray.mk #[]).data.toList = 14695981039346656037 := by decide +kernel
theorem hash_a : hashL 14695981039346656037 (ByteArray.mk #[97]).data.toList = 12638187200555641996 := by decide +kernel
theorem bytes_258 : bytes8 258 = [0, 0, 0, 0, 0, 0, 1, 2] := by decide +kernel
theorem const_arg (w : World) (l : List Int) (z : Nat × Nat) (hm : l.length ≤ maxLen) : ArgAt (w.alloc (.cells (bsv l) 5 z)) (.slice (some ⟨w.heap.size, 0, none⟩) l.length l.length) l := by
  refine .inr ⟨w.heap.size, 0, l.length, by simp, rfl, Nat.le_refl _, hm, ?_⟩
  intro j v hj
  have hn := heap_alloc_new w (.cells (bsv l) 5 z)
  simp only [World.cell?, hn, Nat.zero_add]
  simp [bsv, hj]
theorem eql_bytes8 (l : List Int) (h : l.length = 8) (w : World) : (Op.equalIn 10000 43 (.agg (bsv l)) (.agg (bsv l))).run Tryd.prog w = .ok true w := by
  have hc : Tryd.prog.cellsOf 5 = 1 := by kernel_rfl
  have hs : (Tryd.prog.info? 5).map (·.size) = some 1 := by kernel_rfl
  cases hq : Tryd.prog.info? 5 with
  | none => simp [hq] at hs
  | some i =>
    rw [run_equalIn_array w 9999 (bsv l) (bsv l) und43 hq, hc]
    exact eqItems_same 9998 l w _ (fun j hj => by rw [h]; exact List.mem_range.1 hj)
theorem fox_args (w : World) : ArgAt ((w.alloc (.cells (bsv foxK) 5 (3, 4))).alloc (.cells (bsv foxT) 5 (43, 44))) (.slice (some ⟨w.heap.size, 0, none⟩) 3 3) foxK ∧ ArgAt ((w.alloc (.cells (bsv foxK) 5 (3, 4))).alloc (.cells (bsv foxT) 5 (43, 44))) (.slice (some ⟨w.heap.size + 1, 0, none⟩) 43 43) foxT := by
  refine ⟨(const_arg w foxK (3, 4) (by decide)).below (below_new _ _), ?_⟩
  have := const_arg (w.alloc (.cells (bsv foxK) 5 (3, 4))) foxT (43, 44) (by decide)
  rw [World.size_alloc] at this
  exact this
theorem hash_none_any (w : World) : Calls Tryd.prog 25 #[.string { data := #[] }] w fun e w' => e = .returned (.int .u64 14695981039346656037) ∧ w' = w := by
  refine (mhash_any _ w (by decide)).mono ?_
  rintro e w' ⟨rfl, rfl⟩
  rw [hash_none]
  exact ⟨rfl, rfl⟩
theorem hash_a_any (w : World) : Calls Tryd.prog 25 #[.string { data := #[97] }] w fun e w' => e = .returned (.int .u64 12638187200555641996) ∧ w' = w := by
  refine (mhash_any _ w (by decide)).mono ?_
  rintro e w' ⟨rfl, rfl⟩
  rw [hash_a]
  exact ⟨rfl, rfl⟩
theorem bytes_any (w : World) : Calls Tryd.prog 29 #[.int .u64 258] w fun e w' => e = .returned (.agg (bsv [0, 0, 0, 0, 0, 0, 1, 2])) ∧ Below w.heap.size w w' := by
  have := mbytes_any 258 (by decide) w
  have e : bytes8 ((258 : Nat) : Int) = [0, 0, 0, 0, 0, 0, 1, 2] := bytes_258
  rw [e] at this
  exact this
set_option maxRecDepth 20000 in
set_option maxHeartbeats 4000000 in
theorem works_any {w : World} (hK : KAt w) : Calls Tryd.prog 24 #[] w fun e w' => e = .returned (.bool true) ∧ Below w.heap.size w w' := by
  have HK := hid hK
  have hcv := conv22
  have hcv2 : ∀ (ob : Obj) (C : Array Value) (n c : Nat), (convert 22 22 (.slice (some ⟨w.heap.size + 1, 0, none⟩) n c)).run Tryd.prog ((w.alloc ob).alloc (.cells C 5)) = .ok (.slice (some ⟨w.heap.size + 1, 0, none⟩) n c) ((w.alloc ob).alloc (.cells C 5 (C.size, C.size + 1))) := by
    intro ob C n c
    have := conv22 (w.alloc ob) C n c
    rwa [World.size_alloc] at this
  have e8 : ∀ w, (Op.equalIn 10000 43 (.agg (bsv [0, 0, 0, 0, 0, 0, 1, 2])) (.agg #[.int .u8 0, .int .u8 0, .int .u8 0, .int .u8 0, .int .u8 0, .int .u8 0, .int .u8 1, .int .u8 2])).run Tryd.prog w = .ok true w := eql_bytes8 [0, 0, 0, 0, 0, 0, 1, 2] rfl
  obtain ⟨F, HF⟩ : ∃ F, Hid (hmac foxK foxT = F) := ⟨_, hid rfl⟩
  have HFL : Hid (F.length = 32) := by rw [← HF.out]; exact hmac_len _ _
  have HF0 : Hid (F[0]?.getD 0 = 247 ∧ F[1]?.getD 0 = 188 ∧ F[31]?.getD 0 = 216) := by rw [← HF.out, fox]; exact ⟨rfl, rfl, rfl⟩
  have HA := hid (fox_args w)
  have HB : Hid (Below w.heap.size w ((w.alloc (.cells (bsv foxK) 5 (3, 4))).alloc (.cells (bsv foxT) 5 (43, 44)))) := (below_new _ _).alloc (by simp) _
  clear hK
  go_enter Tryd.func24, Tryd.ntmps24
  go_wp2_with (first
    | (go_at_call 18; (refine (macsum_any (key := foxK) (text := foxT) (by exact HK.out.below HB.out) (by exact HA.out.1) (by exact HA.out.2) (by decide) (by decide)).mono ?_); rintro e w1 ⟨rfl, hb1⟩; rw [HF.out]; have B1 : Hid (Below w.heap.size w w1) := (HB.out.trans (hb1.mono HB.out.size)); clear hb1 hcv hcv2)
    | (refine wpList_store_as rfl 24 _ _ rfl _ (bsv F) rfl rfl 24 _ (row_new _ _ _) (by rw [size24, bsv_size, HFL.out]) (by rw [bsv_size, HFL.out]; rfl) (bsv_one _) ?_; intro w2 hst; have B2 : Hid (Below w.heap.size w w2) := (hst.below (B1.out.alloc B1.out.size _) B1.out.size); have c0 : w2.cell? ⟨w1.heap.size, 0, none⟩ = some (.int .u8 247) := (by rw [hst.row.cell 0, bsv_get (by rw [HFL.out]; omega), HF0.out.1]); have c1 : w2.cell? ⟨w1.heap.size, 1, none⟩ = some (.int .u8 188) := (by rw [hst.row.cell 1, bsv_get (by rw [HFL.out]; omega), HF0.out.2.1]); have c31 : w2.cell? ⟨w1.heap.size, 31, none⟩ = some (.int .u8 216) := (by rw [hst.row.cell 31, bsv_get (by rw [HFL.out]; omega), HF0.out.2.2]); clear hst B1)
    | (go_at_call 25; (with_reducible refine (hash_none_any _).mono ?_); rintro e w' ⟨rfl, hw'⟩; have hw2 := hw'.symm; subst hw2)
    | (go_at_call 25; (with_reducible refine (hash_a_any _).mono ?_); rintro e w' ⟨rfl, hw'⟩; have hw2 := hw'.symm; subst hw2)
    | (go_at_call 29; (with_reducible refine (bytes_any _).mono ?_); rintro e w3 ⟨rfl, hb3⟩; have B3 : Hid (Below w.heap.size w w3) := (B2.out.trans (hb3.mono B2.out.size)); clear hb3))
  go_ret
  exact ⟨rfl, B3.out⟩
end Go.Proofs.YtojcaoieodogdaaDoor
