/- The law MacKeys returns true for all keys, texts and numbers. -/
import Derived.Test.YtojcaoieodogdaaDoorMSumsWalk
namespace Go.Proofs.YtojcaoieodogdaaDoor
open Go.RowKit

theorem fill64_full (l : List Int) (h : l.length = 64) : fill64 l = l := by simp [fill64, h]
theorem keyB_sum (key : List Int) (h : 64 < key.length) : keyB (sha key) = keyB key := by
  unfold keyB keyS
  rw [if_pos h, if_neg (by rw [sha_len]; omega)]
theorem keyB_fill (key : List Int) (h : key.length ≤ 64) : keyB (fill64 key) = keyB key := by
  have hl := fill64_len key h
  unfold keyB keyS
  rw [if_neg (by omega), if_neg (by omega)]
  exact fill64_full _ hl
theorem fill_step (key : List Int) (M : Nat) (h1 : key.length ≤ M) : (key ++ List.replicate (M - key.length) 0) ++ [0] = key ++ List.replicate (M + 1 - key.length) (0 : Int) := by
  rw [List.append_assoc, show M + 1 - key.length = (M - key.length) + 1 by omega, List.replicate_succ']
theorem turned_bit (b : Int) (k : Nat) (hb : 0 ≤ b ∧ b < 256) (hk : k < 8) : bits .xor .u8 b (2 ^ k % 256) ≠ b ∧ 0 ≤ bits .xor .u8 b (2 ^ k % 256) ∧ bits .xor .u8 b (2 ^ k % 256) < 256 := by
  obtain ⟨n, rfl⟩ : ∃ n : Nat, b = n := ⟨b.toNat, by omega⟩
  have all : ∀ (n : Fin 256) (k : Fin 8), n.1 ^^^ (2 ^ k.1) ≠ n.1 ∧ n.1 ^^^ (2 ^ k.1) < 256 := by decide +kernel
  have h1 : n ^^^ 2 ^ k ≠ n ∧ n ^^^ 2 ^ k < 256 := all ⟨n, by omega⟩ ⟨k, hk⟩
  have hp : (2 : Int) ^ k = ((2 ^ k : Nat) : Int) := by push_cast; rfl
  have hpb : 2 ^ k < 256 := Nat.lt_of_lt_of_le (Nat.pow_lt_pow_right (by decide) hk) (by decide)
  rw [hp]
  generalize 2 ^ k = q at h1 hpb
  rw [show (q : Int) % 256 = q by omega]
  rw [u8_xor _ _ (by omega) (by omega) (by omega) (by omega), Int.toNat_natCast, Int.toNat_natCast]
  omega
theorem set_ne (H : List Int) (j : Nat) (z : Int) (hj : j < H.length) (hz : z ≠ H[j]?.getD 0) : H ≠ H.set j z := by
  intro e
  apply hz
  have h1 : (H.set j z)[j]? = some z := by rw [List.getElem?_set, if_pos rfl, if_pos hj]
  rw [← e] at h1
  rw [h1]
  rfl
theorem set_bd (H : List Int) (j : Nat) (z : Int) (h : ∀ x ∈ H, 0 ≤ x ∧ x < 256) (hz : 0 ≤ z ∧ z < 256) : ∀ x ∈ H.set j z, 0 ≤ x ∧ x < 256 := by
  intro x hx
  rcases List.mem_or_eq_of_mem_set hx with hx | rfl
  · exact h x hx
  · exact hz
/-- Two answers, and slices beside them. -/
structure StT (w W : World) (f x : Nat) (S C : List Int) (L : List (Value × List Int)) : Prop where
  st : StR w W f S L
  row2 : RowAt W x (bsv C) 24
theorem StT.next {w W W' : World} {f x : Nat} {S C : List Int} {L : List (Value × List Int)} (H : StT w W f x S C L) (hb : Below W.heap.size W W') : StT w W' f x S C L := ⟨H.st.next hb, H.row2.below hb⟩
theorem StR.two {w W W' : World} {f : Nat} {S : List Int} {L : List (Value × List Int)} {z : Array Value} (H : StR w W f S L) (hst : Stored W.heap.size (bsv S) 24 (W.alloc (.cells z 24)) W') : StT w W' f W.heap.size S S L ∧ f ≠ W.heap.size ∧ (∀ q ∈ L, ∀ a n c, q.1 = .slice (some a) n c → a.block ≠ W.heap.size) ∧ w.heap.size ≤ W.heap.size := by
  refine ⟨⟨H.next (hst.below (below_new W _) (Nat.le_refl _)), hst.row⟩, Nat.ne_of_lt H.row.lt, ?_, H.st.below.size⟩
  intro q hq a n c e
  have h1 := (H.st.args q hq).off (g := W.heap.size) (Nat.le_refl _)
  exact h1 a n c e
theorem StT.set {w W : World} {f x : Nat} {S C : List Int} {L : List (Value × List Int)} (H : StT w W f x S C L) (hf : f ≠ x) (hL : ∀ q ∈ L, ∀ a n c, q.1 = .slice (some a) n c → a.block ≠ x) (hx : w.heap.size ≤ x) (hw : 0 < w.heap.size) (j : Nat) (z : Int) : StT w (W.setCell ⟨x, j, none⟩ (.int .u8 z)) f x S (C.set j z) L := by
  have ht : Turn x W (W.setCell ⟨x, j, none⟩ (.int .u8 z)) := (Turn.refl x W).setCell j _
  have h2 := H.row2.set j (.int .u8 z)
  rw [bsv_set] at h2
  exact ⟨⟨⟨H.st.st.below.trans (ht.below H.st.st.below.size hx), H.st.st.k.turn ht (by omega), fun q hq => (H.st.st.args q hq).turn ht (hL q hq)⟩, H.st.row.turn ht hf⟩, h2⟩
theorem row_part {w : World} {b : Nat} {t : TypeId} {l : List Int} (h : RowAt w b (bsv l) t) (hl : l.length = 32) : ArgAt w (.slice (some ⟨b, 0, none⟩) 31 32) (l.take 31) := by
  have hlen : (l.take 31).length = 31 := by rw [List.length_take]; omega
  refine .inr ⟨b, 0, 32, h.lt, by rw [hlen], by omega, by unfold maxLen; omega, fun j v hj => ?_⟩
  rw [List.getElem?_take] at hj
  split at hj
  · rw [Nat.zero_add, h.cell j]
    simp [bsv, hj]
  · simp at hj
set_option maxRecDepth 20000 in
set_option maxHeartbeats 4000000 in
theorem mackeys_long (pk pt : Option Addr) (Nk ck Nt ct : Nat) (key text : List Int) (bit : Int) (w : World) (hK : KAt w) (hk : ArgAt w (.slice pk Nk ck) key) (ht : ArgAt w (.slice pt Nt ct) text) (lk : key.length = Nk) (lt : text.length = Nt) (bk : ∀ x ∈ key, 0 ≤ x ∧ x < 256) (bt : ∀ x ∈ text, 0 ≤ x ∧ x < 256) (zk : Nk + 200 ≤ 140737488355328) (zt : Nt + 200 ≤ 140737488355328) (hbit : -9223372036854775808 ≤ bit ∧ bit ≤ 9223372036854775807) (hm : 64 < Nk) :
    Calls Tryd.prog 7 #[.slice pk Nk ck, .slice pt Nt ct, .int .i64 bit] w fun e w' => e = .returned (.bool true) ∧ Below w.heap.size w w' := by
  have HN : Hid (key.length = Nk ∧ text.length = Nt ∧ Nk + 200 ≤ 140737488355328 ∧ Nt + 200 ≤ 140737488355328) := ⟨lk, lt, zk, zt⟩
  have HB : Hid ((∀ x ∈ key, 0 ≤ x ∧ x < 256) ∧ (∀ x ∈ text, 0 ≤ x ∧ x < 256)) := ⟨bk, bt⟩
  have HW := hid hK.lt
  have S0 : Hid (StM w w [(.slice pk Nk ck, key), (.slice pt Nt ct, text)]) := by
    refine ⟨Below.refl _ _, hK, fun q hq => ?_⟩
    simp only [List.mem_cons, List.not_mem_nil, or_false] at hq
    rcases hq with rfl | rfl
    · exact hk
    · exact ht
  have hb1 := hbit.1
  have hb2 := hbit.2
  have hgt : (64 : Int) < Nk := by omega
  obtain ⟨other, HOE⟩ : ∃ o, Hid (sha key = o) := ⟨_, hid rfl⟩
  have HOL : Hid (other.length = 32) := by rw [← HOE.out]; exact sha_len _
  have HKE : Hid (keyB other = keyB key) := by rw [← HOE.out]; exact keyB_sum key (by omega)
  have HZ : Hid (key.length ≤ 140737488355328 ∧ text.length ≤ 140737488355328 ∧ other.length ≤ 140737488355328) := ⟨by omega, by omega, by rw [HOL.out]; omega⟩
  clear hK hk ht lk lt bk bt zk zt hbit hm
  go_enter Tryd.func7, Tryd.ntmps7
  go_wp2_with (first
    | (go_at_call 17; (with_reducible refine (twin_any (S0.out.args (.slice pk Nk ck, key) (by simp)) HZ.out.1).mono ?_); rintro e w1 ⟨qk, dk, rfl, hm⟩; rw [HN.out.1]; have S1 := hid (S0.out.next hm.below); clear hm S0)
    | (go_at_call 8; (with_reducible refine (refSum_any (bs := key) (S1.out.args (.slice pk Nk ck, key) (by simp)) HB.out.1 (by have := HN.out; omega)).mono ?_); rintro e w2 ⟨rfl, hb⟩; rw [HOE.out]; have S2 := hid (S1.out.next hb); clear hb S1)
    | (refine wpList_store_as rfl 24 _ _ rfl _ (bsv other) rfl rfl 24 _ (row_new _ _ _) (by rw [size24, bsv_size, HOL.out]) (by rw [bsv_size, HOL.out]; rfl) (bsv_one _) ?_; intro w3 hst; have S3 := hid (S2.out.stored hst); clear hst S2)
    | (go_at_call 18; fail))
  obtain ⟨x1, hx1⟩ : ∃ x, w2.heap.size = x := ⟨_, rfl⟩
  rw [hx1] at S3 ⊢
  clear hx1
  have Z0 : Hid (StM w w3 [(.slice (some ⟨x1, 0, none⟩) 32 32, other), (.slice pk Nk ck, key), (.slice pt Nt ct, text)]) := by
    refine ⟨S3.out.st.below, S3.out.st.k, fun q hq => ?_⟩
    rcases List.mem_cons.1 hq with rfl | hq
    · exact row_argT (n := 32) S3.out.row HOL.out (by unfold maxLen; omega)
    · exact S3.out.st.args q hq
  clear S3
  obtain ⟨H, HH⟩ : ∃ H, Hid (hmac key text = H) := ⟨_, hid rfl⟩
  have HL : Hid (H.length = 32) := by rw [← HH.out]; exact hmac_len _ _
  have HBH : Hid (∀ x ∈ H, 0 ≤ x ∧ x < 256) := by rw [← HH.out]; exact hmac_bd _ _
  have HO : Hid (hmac other text = H) := by
    show _ = _
    rw [← HH.out]
    unfold hmac
    rw [HKE.out]
  have E1 := eql_same H HL.out
  obtain ⟨x0, hx0, hx1⟩ : ∃ x, bit.tmod 256 = x ∧ -256 < x ∧ x < 256 := ⟨_, rfl, by have := Int.lt_tmod_of_pos bit (b := 256) (by omega); omega, Int.tmod_lt_of_pos _ (by omega)⟩
  obtain ⟨k, hk, hk1⟩ : ∃ k : Nat, (x0 + 256).tmod 256 = k ∧ (k : Int) < 256 := by
    rw [Int.tmod_eq_emod_of_nonneg (by omega)]
    exact ⟨((x0 + 256) % 256).toNat, by omega, by omega⟩
  have hx1a := hx1.1
  have hx1b := hx1.2
  clear hx1
  go_wp2_with (first
    | (go_at_call 18; (with_reducible refine (macsum_any Z0.out.k (Z0.out.args (.slice pk Nk ck, key) (by simp)) (Z0.out.args (.slice pt Nt ct, text) (by simp)) HZ.out.1 HZ.out.2.1).mono ?_); rintro e u1 ⟨rfl, hb⟩; rw [HH.out]; have Z1 := hid (Z0.out.next hb); clear hb Z0)
    | (refine wpList_store_as rfl 24 _ _ rfl _ (bsv H) rfl rfl 24 _ (row_new _ _ _) (by rw [size24, bsv_size, HL.out]) (by rw [bsv_size, HL.out]; rfl) (bsv_one _) ?_; intro u2 hst; have Z2 := hid (Z1.out.stored hst); clear hst Z1))
  obtain ⟨f, hf⟩ : ∃ f, u1.heap.size = f := ⟨_, rfl⟩
  rw [hf] at Z2 ⊢
  clear hf
  refine wp_region_noPanic ?_
  refine any_begin 5 (by kernel_rfl) (by kernel_rfl) ?_
  refine late_begin (fun W => (Instr.loadAt 24 (.pointer (some ⟨f, 0, none⟩))).run Tryd.prog W = .ok (.agg (bsv H)) W) (fun _ => false) (load24 Z2.out.drew.row HL.out) (fun hS => ?_)
  replace Z2 := hid Z2.out.drew
  refine late_take (i := 0) (some 28) rfl rfl (by kernel_rfl) (by kernel_rfl) (by kernel_rfl) (by kernel_rfl) (by kernel_rfl) (fun _ _ _ h => h) (by rfl) (v := .agg (bsv H)) ?hy0la hS ?rest0la
  case hy0la => intro w0 hSw; exact load_yields hSw rfl rfl
  simp only [Act.put, List.setIfInBounds_toArray, List.set_cons_zero, List.set_cons_succ]
  refine late_take (i := 1) (some 29) rfl rfl (by kernel_rfl) (by kernel_rfl) (by kernel_rfl) (by kernel_rfl) (by kernel_rfl) (fun _ _ _ h => h) (by rfl) (v := ?v1la) ?hy1la hS ?rest1la
  case hy1la => intro w0 hSw; go_simp; try with_reducible rfl
  simp only [Act.put, List.setIfInBounds_toArray, List.set_cons_zero, List.set_cons_succ]
  refine late_take (i := 2) (some 30) rfl rfl (by kernel_rfl) (by kernel_rfl) (by kernel_rfl) (by kernel_rfl) (by kernel_rfl) (fun _ _ _ h => h) (by rfl) (v := ?v2la) ?hy2la hS ?rest2la
  case hy2la => intro w0 hSw; go_simp; try with_reducible rfl
  simp only [Act.put, List.setIfInBounds_toArray, List.set_cons_zero, List.set_cons_succ]
  refine wpAnyD_one (i := 3) (by kernel_rfl) rfl (fun K hK => ?_)
  go_simp
  go_at_call 18
  refine (macsum_any (key := other) (text := text) Z2.out.st.k (Z2.out.st.args (.slice (some ⟨x1, 0, none⟩) 32 32, other) (by simp)) (Z2.out.st.args (.slice pt Nt ct, text) (by simp)) HZ.out.2.2 HZ.out.2.1).mono ?_
  rintro e u3 ⟨rfl, hb⟩
  rw [HO.out]
  have Z3 := hid (Z2.out.next hb)
  clear hb Z2
  refine hK _ _ ⟨fun _ => load24 Z3.out.row HL.out, ?_⟩
  clear hK K
  replace hS := load24 Z3.out.row HL.out
  refine late_take (i := 4) (some 32) rfl rfl (by kernel_rfl) (by kernel_rfl) (by kernel_rfl) (by kernel_rfl) (by kernel_rfl) (fun _ _ _ h => h) (by rfl) (v := ?v4la) ?hy4la hS ?rest4la
  case hy4la => intro w0 hSw; go_simp; try with_reducible rfl
  simp only [Act.put, List.setIfInBounds_toArray, List.set_cons_zero, List.set_cons_succ]
  refine late_done (by kernel_rfl) ?_ _
  refine NoPanic.normal ?_
  clear hS
  go_wp2_with (first
    | (refine wpList_load_row rfl 24 _ rfl _ rfl 24 (bsv H) _ _ Z3.out.row und24 rfl (by rw [size24, bsv_size, HL.out]) ?_)
    | (refine wpList_store_as rfl 24 _ _ rfl _ (bsv H) rfl rfl 24 _ (row_new _ _ _) (by rw [size24, bsv_size, HL.out]) (by rw [bsv_size, HL.out]; rfl) (bsv_one _) ?_; intro u4 hst; have Z4 := hid (Z3.out.two hst); have c8 := (hst.row.cell (k / 8)).trans (bsv_get (by rw [HL.out]; omega)); have f8 := hst.row.fz (k / 8); clear hst Z3))
  obtain ⟨x, hx⟩ : ∃ x, u3.heap.size = x := ⟨_, rfl⟩
  obtain ⟨C, HC⟩ : ∃ C, Hid (H.set (k / 8) (bits .xor .u8 (H[k / 8]?.getD 0) (2 ^ (k % 8) % 256)) = C) := ⟨_, hid rfl⟩
  have HT := turned_bit (H[k / 8]?.getD 0) (k % 8) (getD_bd HBH.out _) (by omega)
  have Z5 : Hid (StT w (u4.setCell ⟨x, k / 8, none⟩ (.int .u8 (bits .xor .u8 (H[k / 8]?.getD 0) (2 ^ (k % 8) % 256)))) f x H C [(.slice (some ⟨x1, 0, none⟩) 32 32, other), (.slice pk Nk ck, key), (.slice pt Nt ct, text)]) := by
    have h1 := Z4.out
    rw [hx] at h1
    rw [← HC.out]
    exact h1.1.set h1.2.1 h1.2.2.1 h1.2.2.2 HW.out _ _
  have HCL : Hid (C.length = 32 ∧ (∀ x ∈ C, 0 ≤ x ∧ x < 256) ∧ H ≠ C) := by
    rw [← HC.out]
    exact ⟨by rw [List.length_set, HL.out], set_bd H _ _ HBH.out HT.2, set_ne H _ _ (by rw [HL.out]; omega) HT.1⟩
  have D1 : Hid (decide (hmac key text = H) = true) := by show _ = _; rw [HH.out]; simp
  have D2 : Hid (decide (hmac key text = C) = false) := by show _ = _; rw [HH.out]; simpa using HCL.out.2.2
  have D3 : Hid (decide (hmac key text = H.take 31) = false) := by
    show _ = _
    rw [HH.out]
    simp only [decide_eq_false_iff_not]
    intro e
    have := congrArg List.length e
    rw [List.length_take, HL.out] at this
    omega
  have D4 : Hid (decide (H = C) = false) := by show _ = _; simpa using HCL.out.2.2
  rw [hx]
  generalize (u4.setCell ⟨x, k / 8, none⟩ (.int .u8 (bits .xor .u8 (H[k / 8]?.getD 0) (2 ^ (k % 8) % 256)))) = u5 at Z5 ⊢
  clear hx c8 f8 Z4 HT
  refine wp_region_noPanic ?_
  refine any_begin 28 (by kernel_rfl) (by kernel_rfl) ?_
  replace Z5 := hid (Z5.out.next (W' := u5.drew) ((Below.refl _ _).drew))
  refine any_take (i := 0) (some 50) rfl rfl (by kernel_rfl) (by kernel_rfl) (by kernel_rfl) (fun _ _ _ h => h) (by rfl) (v := ?v0l) ?hy0l ?rest0l
  case hy0l => intro w0; go_simp; try with_reducible rfl
  simp only [Act.put, List.setIfInBounds_toArray, List.set_cons_zero, List.set_cons_succ]
  refine any_take (i := 1) (some 51) rfl rfl (by kernel_rfl) (by kernel_rfl) (by kernel_rfl) (fun _ _ _ h => h) (by rfl) (v := ?v1l) ?hy1l ?rest1l
  case hy1l => intro w0; go_simp; try with_reducible rfl
  simp only [Act.put, List.setIfInBounds_toArray, List.set_cons_zero, List.set_cons_succ]
  refine any_take (i := 2) (some 52) rfl rfl (by kernel_rfl) (by kernel_rfl) (by kernel_rfl) (fun _ _ _ h => h) (by rfl) (v := ?v2l) ?hy2l ?rest2l
  case hy2l => intro w0; go_simp; try with_reducible rfl
  simp only [Act.put, List.setIfInBounds_toArray, List.set_cons_zero, List.set_cons_succ]
  refine any_one (i := 3) (by kernel_rfl) rfl (fun K hK => ?_)
  go_simp
  go_at_call 20
  refine (mverify_any Z5.out.st.st.k (Z5.out.st.st.args (.slice pk Nk ck, key) (by simp)) (Z5.out.st.st.args (.slice pt Nt ct, text) (by simp)) (row_argT (n := 32) Z5.out.st.row HL.out (by unfold maxLen; omega)) HBH.out HZ.out.1 HZ.out.2.1 (by rw [HL.out]; omega)).mono ?_
  rintro e u6 ⟨rfl, hb⟩
  rw [D1.out]
  replace Z5 := hid (Z5.out.next hb)
  clear hb
  refine hK _ _ ?_
  clear hK K
  refine any_take (i := 4) (some 54) rfl rfl (by kernel_rfl) (by kernel_rfl) (by kernel_rfl) (fun _ _ _ h => h) (by rfl) (v := ?v4l) ?hy4l ?rest4l
  case hy4l => intro w0; go_simp; try with_reducible rfl
  simp only [Act.put, List.setIfInBounds_toArray, List.set_cons_zero, List.set_cons_succ]
  refine any_take (i := 5) (some 55) rfl rfl (by kernel_rfl) (by kernel_rfl) (by kernel_rfl) (fun _ _ _ h => h) (by rfl) (v := ?v5l) ?hy5l ?rest5l
  case hy5l => intro w0; go_simp; try with_reducible rfl
  simp only [Act.put, List.setIfInBounds_toArray, List.set_cons_zero, List.set_cons_succ]
  refine any_take (i := 6) (some 56) rfl rfl (by kernel_rfl) (by kernel_rfl) (by kernel_rfl) (fun _ _ _ h => h) (by rfl) (v := ?v6l) ?hy6l ?rest6l
  case hy6l => intro w0; go_simp; try with_reducible rfl
  simp only [Act.put, List.setIfInBounds_toArray, List.set_cons_zero, List.set_cons_succ]
  refine any_take (i := 7) (some 57) rfl rfl (by kernel_rfl) (by kernel_rfl) (by kernel_rfl) (fun _ _ _ h => h) (by rfl) (v := ?v7l) ?hy7l ?rest7l
  case hy7l => intro w0; go_simp; try with_reducible rfl
  simp only [Act.put, List.setIfInBounds_toArray, List.set_cons_zero, List.set_cons_succ]
  refine any_one (i := 8) (by kernel_rfl) rfl (fun K hK => ?_)
  go_simp
  go_at_call 20
  refine (mverify_any Z5.out.st.st.k (Z5.out.st.st.args (.slice pk Nk ck, key) (by simp)) (Z5.out.st.st.args (.slice pt Nt ct, text) (by simp)) (row_argT (n := 32) Z5.out.row2 HCL.out.1 (by unfold maxLen; omega)) HCL.out.2.1 HZ.out.1 HZ.out.2.1 (by rw [HCL.out.1]; omega)).mono ?_
  rintro e u7 ⟨rfl, hb⟩
  rw [D2.out]
  replace Z5 := hid (Z5.out.next hb)
  clear hb
  refine hK _ _ ?_
  clear hK K
  refine any_take (i := 9) (some 59) rfl rfl (by kernel_rfl) (by kernel_rfl) (by kernel_rfl) (fun _ _ _ h => h) (by rfl) (v := ?v9l) ?hy9l ?rest9l
  case hy9l => intro w0; go_simp; try with_reducible rfl
  simp only [Act.put, List.setIfInBounds_toArray, List.set_cons_zero, List.set_cons_succ]
  refine any_take (i := 10) (some 60) rfl rfl (by kernel_rfl) (by kernel_rfl) (by kernel_rfl) (fun _ _ _ h => h) (by rfl) (v := ?v10l) ?hy10l ?rest10l
  case hy10l => intro w0; go_simp; try with_reducible rfl
  simp only [Act.put, List.setIfInBounds_toArray, List.set_cons_zero, List.set_cons_succ]
  refine any_take (i := 11) (some 61) rfl rfl (by kernel_rfl) (by kernel_rfl) (by kernel_rfl) (fun _ _ _ h => h) (by rfl) (v := ?v11l) ?hy11l ?rest11l
  case hy11l => intro w0; go_simp; try with_reducible rfl
  simp only [Act.put, List.setIfInBounds_toArray, List.set_cons_zero, List.set_cons_succ]
  refine any_take (i := 12) (some 62) rfl rfl (by kernel_rfl) (by kernel_rfl) (by kernel_rfl) (fun _ _ _ h => h) (by rfl) (v := ?v12l) ?hy12l ?rest12l
  case hy12l => intro w0; go_simp; try with_reducible rfl
  simp only [Act.put, List.setIfInBounds_toArray, List.set_cons_zero, List.set_cons_succ]
  refine any_take (i := 13) (some 63) rfl rfl (by kernel_rfl) (by kernel_rfl) (by kernel_rfl) (fun _ _ _ h => h) (by rfl) (v := ?v13l) ?hy13l ?rest13l
  case hy13l => intro w0; go_simp; try with_reducible rfl
  simp only [Act.put, List.setIfInBounds_toArray, List.set_cons_zero, List.set_cons_succ]
  refine any_take (i := 14) (some 64) rfl rfl (by kernel_rfl) (by kernel_rfl) (by kernel_rfl) (fun _ _ _ h => h) (by rfl) (v := ?v14l) ?hy14l ?rest14l
  case hy14l => intro w0; go_simp; try with_reducible rfl
  simp only [Act.put, List.setIfInBounds_toArray, List.set_cons_zero, List.set_cons_succ]
  refine any_one (i := 15) (by kernel_rfl) rfl (fun K hK => ?_)
  go_simp
  go_at_call 20
  refine (mverify_any Z5.out.st.st.k (Z5.out.st.st.args (.slice pk Nk ck, key) (by simp)) (Z5.out.st.st.args (.slice pt Nt ct, text) (by simp)) (row_part Z5.out.st.row HL.out) (fun y hy => HBH.out y (List.mem_of_mem_take hy)) HZ.out.1 HZ.out.2.1 (by rw [List.length_take, HL.out]; omega)).mono ?_
  rintro e u8 ⟨rfl, hb⟩
  rw [D3.out]
  replace Z5 := hid (Z5.out.next hb)
  clear hb
  refine hK _ _ ?_
  clear hK K
  refine any_take (i := 16) (some 66) rfl rfl (by kernel_rfl) (by kernel_rfl) (by kernel_rfl) (fun _ _ _ h => h) (by rfl) (v := ?v16l) ?hy16l ?rest16l
  case hy16l => intro w0; go_simp; try with_reducible rfl
  simp only [Act.put, List.setIfInBounds_toArray, List.set_cons_zero, List.set_cons_succ]
  refine any_take (i := 17) (some 67) rfl rfl (by kernel_rfl) (by kernel_rfl) (by kernel_rfl) (fun _ _ _ h => h) (by rfl) (v := ?v17l) ?hy17l ?rest17l
  case hy17l => intro w0; go_simp; try with_reducible rfl
  simp only [Act.put, List.setIfInBounds_toArray, List.set_cons_zero, List.set_cons_succ]
  refine any_take (i := 18) (some 68) rfl rfl (by kernel_rfl) (by kernel_rfl) (by kernel_rfl) (fun _ _ _ h => h) (by rfl) (v := ?v18l) ?hy18l ?rest18l
  case hy18l => intro w0; go_simp; try with_reducible rfl
  simp only [Act.put, List.setIfInBounds_toArray, List.set_cons_zero, List.set_cons_succ]
  refine any_take (i := 19) (some 69) rfl rfl (by kernel_rfl) (by kernel_rfl) (by kernel_rfl) (fun _ _ _ h => h) (by rfl) (v := ?v19l) ?hy19l ?rest19l
  case hy19l => intro w0; go_simp; try with_reducible rfl
  simp only [Act.put, List.setIfInBounds_toArray, List.set_cons_zero, List.set_cons_succ]
  refine any_take (i := 20) (some 70) rfl rfl (by kernel_rfl) (by kernel_rfl) (by kernel_rfl) (fun _ _ _ h => h) (by rfl) (v := ?v20l) ?hy20l ?rest20l
  case hy20l => intro w0; go_simp; try with_reducible rfl
  simp only [Act.put, List.setIfInBounds_toArray, List.set_cons_zero, List.set_cons_succ]
  refine any_one (i := 21) (by kernel_rfl) rfl (fun K hK => ?_)
  go_simp
  go_at_call 22
  refine (same_any (row_argT (n := 32) Z5.out.st.row HL.out (by unfold maxLen; omega)) (row_argT (n := 32) Z5.out.row2 HCL.out.1 (by unfold maxLen; omega)) HBH.out HCL.out.2.1 (by rw [HL.out, HCL.out.1]; omega)).mono ?_
  rintro e w' ⟨rfl, hw'⟩
  have hw2 := hw'.symm
  subst hw2
  rw [D4.out]
  refine hK _ _ ?_
  clear hK K
  refine any_take (i := 22) (some 72) rfl rfl (by kernel_rfl) (by kernel_rfl) (by kernel_rfl) (fun _ _ _ h => h) (by rfl) (v := ?v22l) ?hy22l ?rest22l
  case hy22l => intro w0; go_simp; try with_reducible rfl
  simp only [Act.put, List.setIfInBounds_toArray, List.set_cons_zero, List.set_cons_succ]
  refine any_take (i := 23) (some 73) rfl rfl (by kernel_rfl) (by kernel_rfl) (by kernel_rfl) (fun _ _ _ h => h) (by rfl) (v := ?v23l) ?hy23l ?rest23l
  case hy23l => intro w0; go_simp; try with_reducible rfl
  simp only [Act.put, List.setIfInBounds_toArray, List.set_cons_zero, List.set_cons_succ]
  refine any_take (i := 24) (some 74) rfl rfl (by kernel_rfl) (by kernel_rfl) (by kernel_rfl) (fun _ _ _ h => h) (by rfl) (v := ?v24l) ?hy24l ?rest24l
  case hy24l => intro w0; go_simp; try with_reducible rfl
  simp only [Act.put, List.setIfInBounds_toArray, List.set_cons_zero, List.set_cons_succ]
  refine any_one (i := 25) (by kernel_rfl) rfl (fun K hK => ?_)
  go_simp
  go_at_call 24
  refine (works_any Z5.out.st.st.k).mono ?_
  rintro e u9 ⟨rfl, hb⟩
  replace Z5 := hid (Z5.out.next hb)
  clear hb
  refine hK _ _ ?_
  clear hK K
  refine any_take (i := 26) (some 76) rfl rfl (by kernel_rfl) (by kernel_rfl) (by kernel_rfl) (fun _ _ _ h => h) (by rfl) (v := ?v26l) ?hy26l ?rest26l
  case hy26l => intro w0; go_simp; try with_reducible rfl
  simp only [Act.put, List.setIfInBounds_toArray, List.set_cons_zero, List.set_cons_succ]
  refine any_take (i := 27) (some 6) rfl rfl (by kernel_rfl) (by kernel_rfl) (by kernel_rfl) (fun _ _ _ h => h) (by rfl) (v := ?v27l) ?hy27l ?rest27l
  case hy27l => intro w0; go_simp; try with_reducible rfl
  simp only [Act.put, List.setIfInBounds_toArray, List.set_cons_zero, List.set_cons_succ]
  refine any_done (by kernel_rfl) ?_ _
  refine NoPanic.normal ?_
  go_wp2
  go_ret
  exact ⟨rfl, Z5.out.st.st.below⟩
set_option maxRecDepth 20000 in
set_option maxHeartbeats 4000000 in
theorem mackeys_short (pk pt : Option Addr) (Nk ck Nt ct : Nat) (key text : List Int) (bit : Int) (w : World) (hK : KAt w) (hk : ArgAt w (.slice pk Nk ck) key) (ht : ArgAt w (.slice pt Nt ct) text) (lk : key.length = Nk) (lt : text.length = Nt) (bk : ∀ x ∈ key, 0 ≤ x ∧ x < 256) (bt : ∀ x ∈ text, 0 ≤ x ∧ x < 256) (zk : Nk + 200 ≤ 140737488355328) (zt : Nt + 200 ≤ 140737488355328) (hbit : -9223372036854775808 ≤ bit ∧ bit ≤ 9223372036854775807) (hm : Nk ≤ 64) :
    Calls Tryd.prog 7 #[.slice pk Nk ck, .slice pt Nt ct, .int .i64 bit] w fun e w' => e = .returned (.bool true) ∧ Below w.heap.size w w' := by
  have HN : Hid (key.length = Nk ∧ text.length = Nt ∧ Nk + 200 ≤ 140737488355328 ∧ Nt + 200 ≤ 140737488355328) := ⟨lk, lt, zk, zt⟩
  have HB : Hid ((∀ x ∈ key, 0 ≤ x ∧ x < 256) ∧ (∀ x ∈ text, 0 ≤ x ∧ x < 256)) := ⟨bk, bt⟩
  have HW := hid hK.lt
  have S0 : Hid (StM w w [(.slice pk Nk ck, key), (.slice pt Nt ct, text)]) := by
    refine ⟨Below.refl _ _, hK, fun q hq => ?_⟩
    simp only [List.mem_cons, List.not_mem_nil, or_false] at hq
    rcases hq with rfl | rfl
    · exact hk
    · exact ht
  have hb1 := hbit.1
  have hb2 := hbit.2
  have hgt : ¬ (64 : Int) < Nk := by omega
  obtain ⟨other, HOE⟩ : ∃ o, Hid (fill64 key = o) := ⟨_, hid rfl⟩
  have HOL : Hid (other.length = 64) := by rw [← HOE.out]; exact fill64_len _ (by omega)
  have HKE : Hid (keyB other = keyB key) := by rw [← HOE.out]; exact keyB_fill key (by omega)
  have HZ : Hid (key.length ≤ 140737488355328 ∧ text.length ≤ 140737488355328 ∧ other.length ≤ 140737488355328) := ⟨by omega, by omega, by rw [HOL.out]; omega⟩
  have HM := hid hm
  clear hK hk ht lk lt bk bt zk zt hbit hm
  go_enter Tryd.func7, Tryd.ntmps7
  go_wp2_with (go_at_call 17; (with_reducible refine (twin_any (S0.out.args (.slice pk Nk ck, key) (by simp)) HZ.out.1).mono ?_); rintro e w1 ⟨qk, dk, rfl, hm⟩; rw [HN.out.1]; have M1 := hid hm; clear hm)
  go_loopw [7] (fun v W => ∃ (M c : Nat) (p : Option Addr), Nk ≤ M ∧ M ≤ 64 ∧ v = .slice p M c ∧ Hid (Mine w W p c (key ++ List.replicate (M - Nk) 0))) (fun v _ => match v with | .slice _ M _ => 64 - M | _ => 0)
  case atStart => exact ⟨Nk, dk, qk, Nat.le_refl _, HM.out, rfl, by rw [Nat.sub_self, List.replicate_zero, List.append_nil]; exact M1⟩
  case round =>
   clear M1
   obtain ⟨M, c, p, h1, h2, rfl, HP⟩ := hrel
   obtain ⟨V, hV⟩ : ∃ V, V = wr := ⟨_, rfl⟩
   rw [← hV] at HP ⊢
   clear hV
   by_cases hlt : M < 64
   · have hlt' : (M : Int) < 64 := by omega
     have HL1 : Hid ((key ++ List.replicate (M - Nk) (0 : Int)).length = M) := by show _ = _; rw [List.length_append, List.length_replicate, HN.out.1]; omega
     go_wp2_with (refine wpList_append_to (w0 := w) rfl _ _ rfl p M c rfl (key ++ List.replicate (M - Nk) 0) HL1.out (HP.out.next (below_new _ _)) _ rfl [0] (one_arg _ _) (M + 1) (by rw [List.length_append, HL1.out]; rfl) (by omega) ?_; intro p2 c2 W2 hm2; have M2 : Hid (Mine w W2 p2 c2 (key ++ List.replicate (M + 1 - Nk) 0)) := (by have e := fill_step key M (by rw [HN.out.1]; exact h1); rw [HN.out.1] at e; rw [← e]; exact hm2); clear hm2)
     go_roundw
     case rel => exact ⟨M + 1, c2, p2, by omega, by omega, rfl, M2⟩
     case measure => show 64 - (M + 1) < 64 - M; omega
   · have hlt' : ¬ (M : Int) < 64 := by omega
     obtain rfl : M = 64 := by omega
     have Z0 : Hid (StM w V [(.slice p 64 c, other), (.slice pk Nk ck, key), (.slice pt Nt ct, text)]) := by
       have h3 := S0.out.next HP.out.below
       refine ⟨h3.below, h3.k, fun q hq => ?_⟩
       rcases List.mem_cons.1 hq with rfl | hq
       · have e : key ++ List.replicate (64 - Nk) 0 = other := by
           rw [← HOE.out]
           unfold fill64
           rw [HN.out.1]
         have h4 := HP.out.arg
         rw [e, HOL.out] at h4
         exact h4
       · exact h3.args q hq
     clear HP S0 hlt h1 h2
     obtain ⟨H, HH⟩ : ∃ H, Hid (hmac key text = H) := ⟨_, hid rfl⟩
     have HL : Hid (H.length = 32) := by rw [← HH.out]; exact hmac_len _ _
     have HBH : Hid (∀ x ∈ H, 0 ≤ x ∧ x < 256) := by rw [← HH.out]; exact hmac_bd _ _
     have HO : Hid (hmac other text = H) := by
       show _ = _
       rw [← HH.out]
       unfold hmac
       rw [HKE.out]
     have E1 := eql_same H HL.out
     obtain ⟨x0, hx0, hx1⟩ : ∃ x, bit.tmod 256 = x ∧ -256 < x ∧ x < 256 := ⟨_, rfl, by have := Int.lt_tmod_of_pos bit (b := 256) (by omega); omega, Int.tmod_lt_of_pos _ (by omega)⟩
     obtain ⟨k, hk, hk1⟩ : ∃ k : Nat, (x0 + 256).tmod 256 = k ∧ (k : Int) < 256 := by
       rw [Int.tmod_eq_emod_of_nonneg (by omega)]
       exact ⟨((x0 + 256) % 256).toNat, by omega, by omega⟩
     have hx1a := hx1.1
     have hx1b := hx1.2
     clear hx1
     go_wp2_with (first
       | (go_at_call 18; (with_reducible refine (macsum_any Z0.out.k (Z0.out.args (.slice pk Nk ck, key) (by simp)) (Z0.out.args (.slice pt Nt ct, text) (by simp)) HZ.out.1 HZ.out.2.1).mono ?_); rintro e u1 ⟨rfl, hb⟩; rw [HH.out]; have Z1 := hid (Z0.out.next hb); clear hb Z0)
       | (refine wpList_store_as rfl 24 _ _ rfl _ (bsv H) rfl rfl 24 _ (row_new _ _ _) (by rw [size24, bsv_size, HL.out]) (by rw [bsv_size, HL.out]; rfl) (bsv_one _) ?_; intro u2 hst; have Z2 := hid (Z1.out.stored hst); clear hst Z1))
     obtain ⟨f, hf⟩ : ∃ f, u1.heap.size = f := ⟨_, rfl⟩
     rw [hf] at Z2 ⊢
     clear hf
     refine wp_region_noPanic ?_
     refine any_begin 5 (by kernel_rfl) (by kernel_rfl) ?_
     refine late_begin (fun W => (Instr.loadAt 24 (.pointer (some ⟨f, 0, none⟩))).run Tryd.prog W = .ok (.agg (bsv H)) W) (fun _ => false) (load24 Z2.out.drew.row HL.out) (fun hS => ?_)
     replace Z2 := hid Z2.out.drew
     refine late_take (i := 0) (some 28) rfl rfl (by kernel_rfl) (by kernel_rfl) (by kernel_rfl) (by kernel_rfl) (by kernel_rfl) (fun _ _ _ h => h) (by rfl) (v := .agg (bsv H)) ?hy0ma hS ?rest0ma
     case hy0ma => intro w0 hSw; exact load_yields hSw rfl rfl
     simp only [Act.put, List.setIfInBounds_toArray, List.set_cons_zero, List.set_cons_succ]
     refine late_take (i := 1) (some 29) rfl rfl (by kernel_rfl) (by kernel_rfl) (by kernel_rfl) (by kernel_rfl) (by kernel_rfl) (fun _ _ _ h => h) (by rfl) (v := ?v1ma) ?hy1ma hS ?rest1ma
     case hy1ma => intro w0 hSw; go_simp; try with_reducible rfl
     simp only [Act.put, List.setIfInBounds_toArray, List.set_cons_zero, List.set_cons_succ]
     refine late_take (i := 2) (some 30) rfl rfl (by kernel_rfl) (by kernel_rfl) (by kernel_rfl) (by kernel_rfl) (by kernel_rfl) (fun _ _ _ h => h) (by rfl) (v := ?v2ma) ?hy2ma hS ?rest2ma
     case hy2ma => intro w0 hSw; go_simp; try with_reducible rfl
     simp only [Act.put, List.setIfInBounds_toArray, List.set_cons_zero, List.set_cons_succ]
     refine wpAnyD_one (i := 3) (by kernel_rfl) rfl (fun K hK => ?_)
     go_simp
     go_at_call 18
     refine (macsum_any (key := other) (text := text) Z2.out.st.k (Z2.out.st.args (.slice p 64 c, other) (by simp)) (Z2.out.st.args (.slice pt Nt ct, text) (by simp)) HZ.out.2.2 HZ.out.2.1).mono ?_
     rintro e u3 ⟨rfl, hb⟩
     rw [HO.out]
     have Z3 := hid (Z2.out.next hb)
     clear hb Z2
     refine hK _ _ ⟨fun _ => load24 Z3.out.row HL.out, ?_⟩
     clear hK K
     replace hS := load24 Z3.out.row HL.out
     refine late_take (i := 4) (some 32) rfl rfl (by kernel_rfl) (by kernel_rfl) (by kernel_rfl) (by kernel_rfl) (by kernel_rfl) (fun _ _ _ h => h) (by rfl) (v := ?v4ma) ?hy4ma hS ?rest4ma
     case hy4ma => intro w0 hSw; go_simp; try with_reducible rfl
     simp only [Act.put, List.setIfInBounds_toArray, List.set_cons_zero, List.set_cons_succ]
     refine late_done (by kernel_rfl) ?_ _
     refine NoPanic.normal ?_
     clear hS
     go_wp2_with (first
       | (refine wpList_load_row rfl 24 _ rfl _ rfl 24 (bsv H) _ _ Z3.out.row und24 rfl (by rw [size24, bsv_size, HL.out]) ?_)
       | (refine wpList_store_as rfl 24 _ _ rfl _ (bsv H) rfl rfl 24 _ (row_new _ _ _) (by rw [size24, bsv_size, HL.out]) (by rw [bsv_size, HL.out]; rfl) (bsv_one _) ?_; intro u4 hst; have Z4 := hid (Z3.out.two hst); have c8 := (hst.row.cell (k / 8)).trans (bsv_get (by rw [HL.out]; omega)); have f8 := hst.row.fz (k / 8); clear hst Z3))
     obtain ⟨x, hx⟩ : ∃ x, u3.heap.size = x := ⟨_, rfl⟩
     obtain ⟨C, HC⟩ : ∃ C, Hid (H.set (k / 8) (bits .xor .u8 (H[k / 8]?.getD 0) (2 ^ (k % 8) % 256)) = C) := ⟨_, hid rfl⟩
     have HT := turned_bit (H[k / 8]?.getD 0) (k % 8) (getD_bd HBH.out _) (by omega)
     have Z5 : Hid (StT w (u4.setCell ⟨x, k / 8, none⟩ (.int .u8 (bits .xor .u8 (H[k / 8]?.getD 0) (2 ^ (k % 8) % 256)))) f x H C [(.slice p 64 c, other), (.slice pk Nk ck, key), (.slice pt Nt ct, text)]) := by
       have h1 := Z4.out
       rw [hx] at h1
       rw [← HC.out]
       exact h1.1.set h1.2.1 h1.2.2.1 h1.2.2.2 HW.out _ _
     have HCL : Hid (C.length = 32 ∧ (∀ x ∈ C, 0 ≤ x ∧ x < 256) ∧ H ≠ C) := by
       rw [← HC.out]
       exact ⟨by rw [List.length_set, HL.out], set_bd H _ _ HBH.out HT.2, set_ne H _ _ (by rw [HL.out]; omega) HT.1⟩
     have D1 : Hid (decide (hmac key text = H) = true) := by show _ = _; rw [HH.out]; simp
     have D2 : Hid (decide (hmac key text = C) = false) := by show _ = _; rw [HH.out]; simpa using HCL.out.2.2
     have D3 : Hid (decide (hmac key text = H.take 31) = false) := by
       show _ = _
       rw [HH.out]
       simp only [decide_eq_false_iff_not]
       intro e
       have := congrArg List.length e
       rw [List.length_take, HL.out] at this
       omega
     have D4 : Hid (decide (H = C) = false) := by show _ = _; simpa using HCL.out.2.2
     rw [hx]
     generalize (u4.setCell ⟨x, k / 8, none⟩ (.int .u8 (bits .xor .u8 (H[k / 8]?.getD 0) (2 ^ (k % 8) % 256)))) = u5 at Z5 ⊢
     clear hx c8 f8 Z4 HT
     refine wp_region_noPanic ?_
     refine any_begin 28 (by kernel_rfl) (by kernel_rfl) ?_
     replace Z5 := hid (Z5.out.next (W' := u5.drew) ((Below.refl _ _).drew))
     refine any_take (i := 0) (some 50) rfl rfl (by kernel_rfl) (by kernel_rfl) (by kernel_rfl) (fun _ _ _ h => h) (by rfl) (v := ?v0m) ?hy0m ?rest0m
     case hy0m => intro w0; go_simp; try with_reducible rfl
     simp only [Act.put, List.setIfInBounds_toArray, List.set_cons_zero, List.set_cons_succ]
     refine any_take (i := 1) (some 51) rfl rfl (by kernel_rfl) (by kernel_rfl) (by kernel_rfl) (fun _ _ _ h => h) (by rfl) (v := ?v1m) ?hy1m ?rest1m
     case hy1m => intro w0; go_simp; try with_reducible rfl
     simp only [Act.put, List.setIfInBounds_toArray, List.set_cons_zero, List.set_cons_succ]
     refine any_take (i := 2) (some 52) rfl rfl (by kernel_rfl) (by kernel_rfl) (by kernel_rfl) (fun _ _ _ h => h) (by rfl) (v := ?v2m) ?hy2m ?rest2m
     case hy2m => intro w0; go_simp; try with_reducible rfl
     simp only [Act.put, List.setIfInBounds_toArray, List.set_cons_zero, List.set_cons_succ]
     refine any_one (i := 3) (by kernel_rfl) rfl (fun K hK => ?_)
     go_simp
     go_at_call 20
     refine (mverify_any Z5.out.st.st.k (Z5.out.st.st.args (.slice pk Nk ck, key) (by simp)) (Z5.out.st.st.args (.slice pt Nt ct, text) (by simp)) (row_argT (n := 32) Z5.out.st.row HL.out (by unfold maxLen; omega)) HBH.out HZ.out.1 HZ.out.2.1 (by rw [HL.out]; omega)).mono ?_
     rintro e u6 ⟨rfl, hb⟩
     rw [D1.out]
     replace Z5 := hid (Z5.out.next hb)
     clear hb
     refine hK _ _ ?_
     clear hK K
     refine any_take (i := 4) (some 54) rfl rfl (by kernel_rfl) (by kernel_rfl) (by kernel_rfl) (fun _ _ _ h => h) (by rfl) (v := ?v4m) ?hy4m ?rest4m
     case hy4m => intro w0; go_simp; try with_reducible rfl
     simp only [Act.put, List.setIfInBounds_toArray, List.set_cons_zero, List.set_cons_succ]
     refine any_take (i := 5) (some 55) rfl rfl (by kernel_rfl) (by kernel_rfl) (by kernel_rfl) (fun _ _ _ h => h) (by rfl) (v := ?v5m) ?hy5m ?rest5m
     case hy5m => intro w0; go_simp; try with_reducible rfl
     simp only [Act.put, List.setIfInBounds_toArray, List.set_cons_zero, List.set_cons_succ]
     refine any_take (i := 6) (some 56) rfl rfl (by kernel_rfl) (by kernel_rfl) (by kernel_rfl) (fun _ _ _ h => h) (by rfl) (v := ?v6m) ?hy6m ?rest6m
     case hy6m => intro w0; go_simp; try with_reducible rfl
     simp only [Act.put, List.setIfInBounds_toArray, List.set_cons_zero, List.set_cons_succ]
     refine any_take (i := 7) (some 57) rfl rfl (by kernel_rfl) (by kernel_rfl) (by kernel_rfl) (fun _ _ _ h => h) (by rfl) (v := ?v7m) ?hy7m ?rest7m
     case hy7m => intro w0; go_simp; try with_reducible rfl
     simp only [Act.put, List.setIfInBounds_toArray, List.set_cons_zero, List.set_cons_succ]
     refine any_one (i := 8) (by kernel_rfl) rfl (fun K hK => ?_)
     go_simp
     go_at_call 20
     refine (mverify_any Z5.out.st.st.k (Z5.out.st.st.args (.slice pk Nk ck, key) (by simp)) (Z5.out.st.st.args (.slice pt Nt ct, text) (by simp)) (row_argT (n := 32) Z5.out.row2 HCL.out.1 (by unfold maxLen; omega)) HCL.out.2.1 HZ.out.1 HZ.out.2.1 (by rw [HCL.out.1]; omega)).mono ?_
     rintro e u7 ⟨rfl, hb⟩
     rw [D2.out]
     replace Z5 := hid (Z5.out.next hb)
     clear hb
     refine hK _ _ ?_
     clear hK K
     refine any_take (i := 9) (some 59) rfl rfl (by kernel_rfl) (by kernel_rfl) (by kernel_rfl) (fun _ _ _ h => h) (by rfl) (v := ?v9m) ?hy9m ?rest9m
     case hy9m => intro w0; go_simp; try with_reducible rfl
     simp only [Act.put, List.setIfInBounds_toArray, List.set_cons_zero, List.set_cons_succ]
     refine any_take (i := 10) (some 60) rfl rfl (by kernel_rfl) (by kernel_rfl) (by kernel_rfl) (fun _ _ _ h => h) (by rfl) (v := ?v10m) ?hy10m ?rest10m
     case hy10m => intro w0; go_simp; try with_reducible rfl
     simp only [Act.put, List.setIfInBounds_toArray, List.set_cons_zero, List.set_cons_succ]
     refine any_take (i := 11) (some 61) rfl rfl (by kernel_rfl) (by kernel_rfl) (by kernel_rfl) (fun _ _ _ h => h) (by rfl) (v := ?v11m) ?hy11m ?rest11m
     case hy11m => intro w0; go_simp; try with_reducible rfl
     simp only [Act.put, List.setIfInBounds_toArray, List.set_cons_zero, List.set_cons_succ]
     refine any_take (i := 12) (some 62) rfl rfl (by kernel_rfl) (by kernel_rfl) (by kernel_rfl) (fun _ _ _ h => h) (by rfl) (v := ?v12m) ?hy12m ?rest12m
     case hy12m => intro w0; go_simp; try with_reducible rfl
     simp only [Act.put, List.setIfInBounds_toArray, List.set_cons_zero, List.set_cons_succ]
     refine any_take (i := 13) (some 63) rfl rfl (by kernel_rfl) (by kernel_rfl) (by kernel_rfl) (fun _ _ _ h => h) (by rfl) (v := ?v13m) ?hy13m ?rest13m
     case hy13m => intro w0; go_simp; try with_reducible rfl
     simp only [Act.put, List.setIfInBounds_toArray, List.set_cons_zero, List.set_cons_succ]
     refine any_take (i := 14) (some 64) rfl rfl (by kernel_rfl) (by kernel_rfl) (by kernel_rfl) (fun _ _ _ h => h) (by rfl) (v := ?v14m) ?hy14m ?rest14m
     case hy14m => intro w0; go_simp; try with_reducible rfl
     simp only [Act.put, List.setIfInBounds_toArray, List.set_cons_zero, List.set_cons_succ]
     refine any_one (i := 15) (by kernel_rfl) rfl (fun K hK => ?_)
     go_simp
     go_at_call 20
     refine (mverify_any Z5.out.st.st.k (Z5.out.st.st.args (.slice pk Nk ck, key) (by simp)) (Z5.out.st.st.args (.slice pt Nt ct, text) (by simp)) (row_part Z5.out.st.row HL.out) (fun y hy => HBH.out y (List.mem_of_mem_take hy)) HZ.out.1 HZ.out.2.1 (by rw [List.length_take, HL.out]; omega)).mono ?_
     rintro e u8 ⟨rfl, hb⟩
     rw [D3.out]
     replace Z5 := hid (Z5.out.next hb)
     clear hb
     refine hK _ _ ?_
     clear hK K
     refine any_take (i := 16) (some 66) rfl rfl (by kernel_rfl) (by kernel_rfl) (by kernel_rfl) (fun _ _ _ h => h) (by rfl) (v := ?v16m) ?hy16m ?rest16m
     case hy16m => intro w0; go_simp; try with_reducible rfl
     simp only [Act.put, List.setIfInBounds_toArray, List.set_cons_zero, List.set_cons_succ]
     refine any_take (i := 17) (some 67) rfl rfl (by kernel_rfl) (by kernel_rfl) (by kernel_rfl) (fun _ _ _ h => h) (by rfl) (v := ?v17m) ?hy17m ?rest17m
     case hy17m => intro w0; go_simp; try with_reducible rfl
     simp only [Act.put, List.setIfInBounds_toArray, List.set_cons_zero, List.set_cons_succ]
     refine any_take (i := 18) (some 68) rfl rfl (by kernel_rfl) (by kernel_rfl) (by kernel_rfl) (fun _ _ _ h => h) (by rfl) (v := ?v18m) ?hy18m ?rest18m
     case hy18m => intro w0; go_simp; try with_reducible rfl
     simp only [Act.put, List.setIfInBounds_toArray, List.set_cons_zero, List.set_cons_succ]
     refine any_take (i := 19) (some 69) rfl rfl (by kernel_rfl) (by kernel_rfl) (by kernel_rfl) (fun _ _ _ h => h) (by rfl) (v := ?v19m) ?hy19m ?rest19m
     case hy19m => intro w0; go_simp; try with_reducible rfl
     simp only [Act.put, List.setIfInBounds_toArray, List.set_cons_zero, List.set_cons_succ]
     refine any_take (i := 20) (some 70) rfl rfl (by kernel_rfl) (by kernel_rfl) (by kernel_rfl) (fun _ _ _ h => h) (by rfl) (v := ?v20m) ?hy20m ?rest20m
     case hy20m => intro w0; go_simp; try with_reducible rfl
     simp only [Act.put, List.setIfInBounds_toArray, List.set_cons_zero, List.set_cons_succ]
     refine any_one (i := 21) (by kernel_rfl) rfl (fun K hK => ?_)
     go_simp
     go_at_call 22
     refine (same_any (row_argT (n := 32) Z5.out.st.row HL.out (by unfold maxLen; omega)) (row_argT (n := 32) Z5.out.row2 HCL.out.1 (by unfold maxLen; omega)) HBH.out HCL.out.2.1 (by rw [HL.out, HCL.out.1]; omega)).mono ?_
     rintro e w' ⟨rfl, hw'⟩
     have hw2 := hw'.symm
     subst hw2
     rw [D4.out]
     refine hK _ _ ?_
     clear hK K
     refine any_take (i := 22) (some 72) rfl rfl (by kernel_rfl) (by kernel_rfl) (by kernel_rfl) (fun _ _ _ h => h) (by rfl) (v := ?v22m) ?hy22m ?rest22m
     case hy22m => intro w0; go_simp; try with_reducible rfl
     simp only [Act.put, List.setIfInBounds_toArray, List.set_cons_zero, List.set_cons_succ]
     refine any_take (i := 23) (some 73) rfl rfl (by kernel_rfl) (by kernel_rfl) (by kernel_rfl) (fun _ _ _ h => h) (by rfl) (v := ?v23m) ?hy23m ?rest23m
     case hy23m => intro w0; go_simp; try with_reducible rfl
     simp only [Act.put, List.setIfInBounds_toArray, List.set_cons_zero, List.set_cons_succ]
     refine any_take (i := 24) (some 74) rfl rfl (by kernel_rfl) (by kernel_rfl) (by kernel_rfl) (fun _ _ _ h => h) (by rfl) (v := ?v24m) ?hy24m ?rest24m
     case hy24m => intro w0; go_simp; try with_reducible rfl
     simp only [Act.put, List.setIfInBounds_toArray, List.set_cons_zero, List.set_cons_succ]
     refine any_one (i := 25) (by kernel_rfl) rfl (fun K hK => ?_)
     go_simp
     go_at_call 24
     refine (works_any Z5.out.st.st.k).mono ?_
     rintro e u9 ⟨rfl, hb⟩
     replace Z5 := hid (Z5.out.next hb)
     clear hb
     refine hK _ _ ?_
     clear hK K
     refine any_take (i := 26) (some 76) rfl rfl (by kernel_rfl) (by kernel_rfl) (by kernel_rfl) (fun _ _ _ h => h) (by rfl) (v := ?v26m) ?hy26m ?rest26m
     case hy26m => intro w0; go_simp; try with_reducible rfl
     simp only [Act.put, List.setIfInBounds_toArray, List.set_cons_zero, List.set_cons_succ]
     refine any_take (i := 27) (some 6) rfl rfl (by kernel_rfl) (by kernel_rfl) (by kernel_rfl) (fun _ _ _ h => h) (by rfl) (v := ?v27m) ?hy27m ?rest27m
     case hy27m => intro w0; go_simp; try with_reducible rfl
     simp only [Act.put, List.setIfInBounds_toArray, List.set_cons_zero, List.set_cons_succ]
     refine any_done (by kernel_rfl) ?_ _
     refine NoPanic.normal ?_
     go_wp2
     go_ret
     exact ⟨rfl, Z5.out.st.st.below⟩
theorem mackeys_walk (pk pt : Option Addr) (Nk ck Nt ct : Nat) (key text : List Int) (bit : Int) (w : World) (hK : KAt w) (hk : ArgAt w (.slice pk Nk ck) key) (ht : ArgAt w (.slice pt Nt ct) text) (lk : key.length = Nk) (lt : text.length = Nt) (bk : ∀ x ∈ key, 0 ≤ x ∧ x < 256) (bt : ∀ x ∈ text, 0 ≤ x ∧ x < 256) (zk : Nk + 200 ≤ 140737488355328) (zt : Nt + 200 ≤ 140737488355328) (hbit : -9223372036854775808 ≤ bit ∧ bit ≤ 9223372036854775807) :
    Calls Tryd.prog 7 #[.slice pk Nk ck, .slice pt Nt ct, .int .i64 bit] w fun e w' => e = .returned (.bool true) ∧ Below w.heap.size w w' := by
  by_cases h : 64 < Nk
  · exact mackeys_long pk pt Nk ck Nt ct key text bit w hK hk ht lk lt bk bt zk zt hbit h
  · exact mackeys_short pk pt Nk ck Nt ct key text bit w hK hk ht lk lt bk bt zk zt hbit (by omega)
end Go.Proofs.YtojcaoieodogdaaDoor
