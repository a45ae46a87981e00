/- Sum of package sha, and what must come whatever the input is. -/
import Derived.Test.YtojcaoieodogdaaDoorEval
namespace Go.Proofs.YtojcaoieodogdaaDoor
open Go.RowKit

theorem ArgAt.off {w : World} {v : Value} {bs : List Int} (h : ArgAt w v bs) {g : Nat} (hg : w.heap.size ≤ g) : Off g v := by
  intro a n c e
  rcases h with ⟨rfl, _⟩ | ⟨b, o, cap, h1, rfl, _⟩
  · simp at e
  · simp only [Value.slice.injEq, Option.some.injEq] at e
    rw [← e.1]
    show b ≠ g
    omega
theorem ArgAt.since {w w' : World} {v : Value} {bs : List Int} (h : ArgAt w v bs) (hb : Below w.heap.size w w') : ArgAt w' v bs := h.below hb
structure PSumP (w W : World) (h : Nat) (m : List Int) : Prop where
  below : Below w.heap.size w W
  k : KAt W
  out : RowAt W w.heap.size (bsv (List.replicate 32 0)) 24
  lo : w.heap.size < h
  hash : HoldsH W h m
theorem PSumP.next {w W W' : World} {h : Nat} {m : List Int} (H : PSumP w W h m) (hb : Below W.heap.size W W') : PSumP w W' h m :=
  ⟨H.below.trans (hb.mono H.below.size), H.k.below hb, H.out.below hb, H.lo, H.hash.below hb⟩
theorem PSumP.turn {w W W' : World} {h : Nat} {m m' : List Int} (H : PSumP w W h m) (ht : Turn h W W') (hh : HoldsH W' h m') : PSumP w W' h m' := by
  have b : Below h W W' := ht.below (Nat.le_of_lt H.hash.lt) (Nat.le_refl _)
  exact ⟨H.below.trans (b.mono (Nat.le_of_lt H.lo)), H.k.turn ht (by have := H.lo; omega), (b.block _ H.lo).trans H.out, H.lo, hh⟩
theorem psum_start {w w1 : World} {h : Nat} (hK : KAt w) (hb : Below (w.alloc (.cells (bsv (List.replicate 32 0)) 24)).heap.size (w.alloc (.cells (bsv (List.replicate 32 0)) 24)) w1) (hh : (w.alloc (.cells (bsv (List.replicate 32 0)) 24)).heap.size ≤ h)
    (H : HashAt w1 h first8 (List.replicate 64 0) 0) : PSumP w w1 h [] := by
  have b1 : Below w.heap.size w (w.alloc (.cells (bsv (List.replicate 32 0)) 24)) := (Below.refl _ _).alloc (Nat.le_refl _) _
  have b2 : Below w.heap.size w w1 := b1.trans (hb.mono b1.size)
  rw [World.size_alloc] at hh
  exact ⟨b2, hK.below b2, (row_new _ _ _).below hb, by omega, ⟨_, _, H, hashed_none⟩⟩
set_option maxRecDepth 20000 in
set_option maxHeartbeats 2000000 in
theorem sum_any {w : World} {v : Value} {bs : List Int} (hK : KAt w) (ha : ArgAt w v bs) (hm : bs.length ≤ 1000000000000000000) :
    Calls Tryd.prog 10 #[v] w fun e w' => e = .returned (.agg (bsv (sha bs))) ∧ Below w.heap.size w w' := by
  have HK := hid hK
  have HA := hid ha
  have HM : Hid (([] : List Int).length + bs.length ≤ 1152921504606846976 ∧ bs.length ≤ 1000000000000000000) := ⟨by simp; omega, hm⟩
  clear hK ha hm
  go_enter Tryd.func10, Tryd.ntmps10
  go_wp2_with (first
    | (go_at_call 9; (with_reducible refine (new_any _).mono ?_); rintro e w1 ⟨h, rfl, hh, H, hb⟩; have HP := hid (psum_start HK.out hb hh H); clear hh H hb)
    | (go_at_call 13; (with_reducible refine (write_any HP.out.hash HP.out.k (Nat.lt_of_le_of_lt (Nat.zero_le _) HP.out.lo) (HA.out.since HP.out.below) (HA.out.off (Nat.le_of_lt HP.out.lo)) HM.out.1).mono ?_); rintro e w2 ⟨rfl, hh2, ht2⟩; rw [List.nil_append] at hh2; have HP2 := hid (HP.out.turn ht2 hh2); clear hh2 ht2 HP)
    | (go_at_call 15; (with_reducible refine (hsum_any HP2.out.hash HP2.out.k HM.out.2).mono ?_); rintro e w3 ⟨rfl, hb3⟩; have HP3 := hid (HP2.out.next hb3); clear hb3 HP2)
    | (refine wpList_store_row rfl 24 _ _ rfl _ (bsv (sha bs)) rfl rfl 24 (bsv (List.replicate 32 0)) HP3.out.out (by rw [size24, bsv_size, sha_len]) (by rw [bsv_size, bsv_size, sha_len]; simp) (bsv_one _) ?_))
  refine bodyPost_ret (results_cell_row rfl _ _ _ 24 (bsv (sha bs)) _ _ rfl (HP3.out.out.setRow _) und24 rfl (by rw [size24, bsv_size, sha_len])) rfl ?_
  exact ⟨rfl, below_setRow HP3.out.below (Nat.le_refl _) _⟩
theorem abc_text : strOfNums (textB (sha [97, 98, 99])) = { data := #[98, 97, 55, 56, 49, 54, 98, 102, 56, 102, 48, 49, 99, 102, 101, 97, 52, 49, 52, 49, 52, 48, 100, 101, 53, 100, 97, 101, 50, 50, 50, 51, 98, 48, 48, 51, 54, 49, 97, 51, 57, 54, 49, 55, 55, 97, 57, 99, 98, 52, 49, 48, 102, 102, 54, 49, 102, 50, 48, 48, 49, 53, 97, 100] } := by
  rw [abc]
  decide +kernel
theorem joinB_bd (st : List Int) : ∀ x ∈ joinB st, 0 ≤ x ∧ x < 256 := by
  intro x hx
  obtain ⟨i, _, rfl⟩ := List.mem_map.1 hx
  omega
theorem sha_bd (m : List Int) : ∀ x ∈ sha m, 0 ≤ x ∧ x < 256 := joinB_bd _
theorem conv22 (w : World) (C : Array Value) (n c : Nat) : (convert 22 22 (.slice (some ⟨w.heap.size, 0, none⟩) n c)).run Tryd.prog (w.alloc (.cells C 5)) = .ok (.slice (some ⟨w.heap.size, 0, none⟩) n c) (w.alloc (.cells C 5 (C.size, C.size + 1))) :=
  Lib.run_convert_bytes_const (P := Tryd.prog) w 22 5 C n c (by kernel_rfl) (by kernel_rfl)
theorem abc_arg (w : World) (z : Nat × Nat) : ArgAt (w.alloc (.cells #[.int .u8 97, .int .u8 98, .int .u8 99] 5 z)) (.slice (some ⟨w.heap.size, 0, none⟩) 3 3) [97, 98, 99] := by
  refine .inr ⟨w.heap.size, 0, 3, by simp, rfl, Nat.le_refl _, by unfold maxLen; omega, ?_⟩
  intro j v hj
  have hn := heap_alloc_new w (.cells #[.int .u8 97, .int .u8 98, .int .u8 99] 5 z)
  simp only [World.cell?, hn, Nat.zero_add]
  match j, hj with
  | 0, hj => simpa using hj
  | 1, hj => simpa using hj
  | 2, hj => simpa using hj
theorem below_new (w : World) (o : Obj) : Below w.heap.size w (w.alloc o) := (Below.refl _ _).alloc (Nat.le_refl _) _
set_option maxRecDepth 20000 in
set_option maxHeartbeats 2000000 in
theorem sure_any {w : World} (hK : KAt w) : Calls Tryd.prog 16 #[] w fun e w' => e = .returned (.bool true) ∧ Below w.heap.size w w' := by
  have HK := hid hK
  have hcv := conv22
  have hab := abc_text
  clear hK
  go_enter Tryd.func16, Tryd.ntmps16
  go_wp2_with (first
    | (go_at_call 10; (with_reducible refine (sum_any (HK.out.below (below_new _ _)) (abc_arg _ _) (by decide)).mono ?_); rintro e w1 ⟨rfl, hb1⟩; have HB := hid ((below_new w _).trans (hb1.mono (by simp))); clear hb1)
    | (go_at_call 11; (with_reducible refine (text_any (sha [97, 98, 99]) (sha_len _) (sha_bd _) _).mono ?_); rintro e w2 ⟨rfl, hb2⟩; have HB2 := hid (HB.out.trans (hb2.mono HB.out.size)); clear hb2))
  go_ret
  exact ⟨rfl, HB2.out⟩
end Go.Proofs.YtojcaoieodogdaaDoor
