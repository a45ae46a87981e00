/- The law ShaCuts returns true for all slices of bytes. -/
import Derived.Test.YthfjbfoipmjckaaDoorAppend
import Derived.Test.YthfjbfoipmjckaaDoorOrder
namespace Go.Proofs.YthfjbfoipmjckaaDoor
open Go.RowKit

set_option maxRecDepth 20000 in
set_option maxHeartbeats 4000000 in
theorem cuts_long (pa pb pc : Option Addr) (Na Nb Nc ca cb cc : Nat) (w : World) (hK : KAt w) (hl : 5000 < Na ∨ 5000 < Nb ∨ 5000 < Nc) :
    Calls Tryd.prog 5 #[.slice pa Na ca, .slice pb Nb cb, .slice pc Nc cc] w fun e w' => e = .returned (.bool true) ∧ Below w.heap.size w w' := by
  have HK := hid hK
  clear hK
  have hcases : (5000 : Int) < Na ∨ (¬ (5000 : Int) < Na ∧ (5000 : Int) < Nb) ∨ (¬ (5000 : Int) < Na ∧ ¬ (5000 : Int) < Nb ∧ (5000 : Int) < Nc) := by omega
  clear hl
  rcases hcases with h1 | ⟨h1, h2⟩ | ⟨h1, h2, h3⟩
  all_goals
    go_enter Tryd.func5, Tryd.ntmps5
    go_wp2_with (first
      | (go_at_call 7; (with_reducible refine (new_any _).mono ?_); rintro e w1 ⟨h, rfl, hh, H, hb⟩; have HB := hid hb; clear hh H hb)
      | (go_at_call 14; (with_reducible refine (sure_any (HK.out.below HB.out)).mono ?_); rintro e w2 ⟨rfl, hb2⟩; have HB2 := hid (HB.out.trans (hb2.mono HB.out.size)); clear hb2))
    go_ret
    exact ⟨rfl, HB2.out⟩
theorem hclone_any {w : World} {h : Nat} {m : List Int} (H : HoldsH w h m) : Calls Tryd.prog 20 #[.pointer (some ⟨h, 0, none⟩)] w fun e w' => ∃ g, e = .returned (.pointer (some ⟨g, 0, none⟩)) ∧ w.heap.size ≤ g ∧ HoldsH w' g m ∧ Below w.heap.size w w' := by
  obtain ⟨st, rest, h1, h2⟩ := H
  refine (clone_any h1).mono ?_
  rintro e w' ⟨g, rfl, h3, h4, h5⟩
  exact ⟨g, rfl, h3, ⟨st, rest, h4, h2⟩, h5⟩
theorem hlen_any {w : World} {h : Nat} {m : List Int} (H : HoldsH w h m) (n : Nat) (hn : m.length = n) : Calls Tryd.prog 12 #[.pointer (some ⟨h, 0, none⟩)] w fun e w' => e = .returned (.int .i64 n) ∧ w' = w := by
  obtain ⟨st, rest, h1, h2⟩ := H
  subst hn
  exact len_any h1
theorem st1_store {w W W' : World} {h : Nat} {m : List Int} {S : List Int} {z : Array Value} {L : List (Value × List Int)} (H : St1 w W h m L) (hst : Stored W.heap.size (bsv S) 24 (W.alloc (.cells z 24)) W') : St1 w W' h m L ∧ RowAt W' W.heap.size (bsv S) 24 ∧ W.heap.size ≠ h := by
  have hb : Below W.heap.size W W' := hst.below (below_new W _) (Nat.le_refl _)
  exact ⟨H.next hb, hst.row, Nat.ne_of_gt H.hash.lt⟩
theorem load24 {w : World} {f : Nat} {l : List Int} (h : RowAt w f (bsv l) 24) (hl : l.length = 32) : (Instr.loadAt 24 (.pointer (some ⟨f, 0, none⟩))).run Tryd.prog w = .ok (.agg (bsv l)) w := by
  refine load_part 24 32 5 (l.map (Value.int .u8)) und24 (by rw [size24, List.length_map, hl]) (fun j v hj => ?_)
  rw [Nat.zero_add, h.cell j]
  simpa [bsv] using hj
theorem mine_nil (w : World) : Mine w w none 0 [] := ⟨Below.refl _ _, Nat.le_refl _, Nat.zero_le _, fun _ => ⟨rfl, rfl⟩, fun a ha => by simp at ha⟩
theorem ArgAt.len {w : World} {qo : Option Addr} {N k : Nat} {A B : List Int} (h : ArgAt w (.slice qo ([] ++ A).length k) B) (hN : A.length = N) : ArgAt w (.slice qo N k) B := by
  rw [List.nil_append, hN] at h
  exact h
theorem st1_new {w w1 : World} {h : Nat} (hK : KAt w) (hh : w.heap.size ≤ h) (H : HashAt w1 h first8 (List.replicate 64 0) 0) (hb : Below w.heap.size w w1) {L : List (Value × List Int)} (hL : ∀ q ∈ L, ArgAt w q.1 q.2) : St1 w w1 h [] L :=
  ⟨hb, hK.below hb, hh, ⟨_, _, H, hashed_none⟩, fun q hq => ⟨(hL q hq).below hb, (hL q hq).off hh⟩⟩
set_option maxRecDepth 20000 in
set_option maxHeartbeats 4000000 in
theorem cuts_short (pa pb pc : Option Addr) (Na Nb Nc ca cb cc : Nat) (A B C : List Int) (w : World) (hK : KAt w) (h1 : Na ≤ 5000) (h2 : Nb ≤ 5000) (h3 : Nc ≤ 5000)
    (ha : ArgAt w (.slice pa Na ca) A) (hb : ArgAt w (.slice pb Nb cb) B) (hc : ArgAt w (.slice pc Nc cc) C) (la : A.length = Na) (lb : B.length = Nb) (lc : C.length = Nc) :
    Calls Tryd.prog 5 #[.slice pa Na ca, .slice pb Nb cb, .slice pc Nc cc] w fun e w' => e = .returned (.bool true) ∧ Below w.heap.size w w' := by
  have HK := hid hK
  have H0 := hid hK.lt
  have HL : Hid (∀ q ∈ [(Value.slice pa Na ca, A), (Value.slice pb Nb cb, B), (Value.slice pc Nc cc, C)], ArgAt w q.1 q.2) := by
    intro q hq
    simp only [List.mem_cons, List.not_mem_nil, or_false] at hq
    rcases hq with rfl | rfl | rfl
    · exact ha
    · exact hb
    · exact hc
  have HN : Hid (A.length = Na ∧ B.length = Nb ∧ C.length = Nc ∧ Na ≤ 5000 ∧ Nb ≤ 5000 ∧ Nc ≤ 5000) := ⟨la, lb, lc, h1, h2, h3⟩
  have h1' : ¬ (5000 : Int) < Na := by omega
  have h2' : ¬ (5000 : Int) < Nb := by omega
  have h3' : ¬ (5000 : Int) < Nc := by omega
  have hab : (A ++ B).length = Na + Nb := by simp [la, lb]
  have hac : (A ++ C).length = Na + Nc := by simp [la, lc]
  have HAB := hid hab
  have HAC := hid hac
  clear hK ha hb hc la lb lc h1 h2 h3 hab hac
  go_enter Tryd.func5, Tryd.ntmps5
  go_wp2_with (first
    | (go_at_call 7; (with_reducible refine (new_any _).mono ?_); rintro e w1 ⟨h, rfl, hh, H, hb⟩; have S1 := hid (st1_new HK.out hh H hb HL.out); clear hh H hb)
    | (refine wpList_append_bytes rfl _ _ rfl rfl _ rfl A (S1.out.args (.slice pa Na ca, A) (by simp)).1 (by have := HN.out; omega) ?_; intro qa ka w2 hm2; rw [HN.out.1]; have M2 := hid hm2; have S2 := hid (S1.out.next hm2.below); clear hm2)
    | (refine wpList_append_to rfl _ _ rfl _ _ _ rfl A HN.out.1 M2.out _ rfl B (S2.out.args (.slice pb Nb cb, B) (by simp)).1 (Na + Nb) HAB.out (by have := HN.out; omega) ?_; intro qab kab w3 hm3; have S3 := hid (S1.out.mine hm3 HAB.out); clear hm3 M2 S1 S2)
    | (refine wpList_append_bytes rfl _ _ rfl rfl _ rfl A (S3.out.args (.slice pa Na ca, A) (by simp)).1 (by have := HN.out; omega) ?_; intro qa2 ka2 w4 hm4; rw [HN.out.1]; have M4 := hid hm4; have S4 := hid (S3.out.next hm4.below); clear hm4)
    | (refine wpList_append_to rfl _ _ rfl _ _ _ rfl A HN.out.1 M4.out _ rfl C (S4.out.args (.slice pc Nc cc, C) (by simp)).1 (Na + Nc) HAC.out (by have := HN.out; omega) ?_; intro qac kac w5 hm5; have S5 := hid (S3.out.mine hm5 HAC.out); clear hm5 M4 S3 S4)
    | (refine wpList_append_bytes rfl _ _ rfl rfl _ rfl A (S5.out.args (.slice pa Na ca, A) (by simp)).1 (by have := HN.out; omega) ?_; intro qx kx w6 hm6; rw [HN.out.1]; have S6 := hid (S5.out.mine hm6 HN.out.1); clear hm6 S5)
    | (refine wpList_append_bytes rfl _ _ rfl rfl _ rfl B (S6.out.args (.slice pb Nb cb, B) (by simp)).1 (by have := HN.out; omega) ?_; intro qy ky w7 hm7; rw [HN.out.2.1]; have S7 := hid (S6.out.mine hm7 HN.out.2.1); clear hm7 S6)
    | (refine wpList_append_bytes rfl _ _ rfl rfl _ rfl C (S7.out.args (.slice pc Nc cc, C) (by simp)).1 (by have := HN.out; omega) ?_; intro qz kz w8 hm8; rw [HN.out.2.2.1]; have S8 := hid (S7.out.mine hm8 HN.out.2.2.1); clear hm8 S7)
    | (go_at_call 11; (with_reducible refine (write_any (bs := A) S8.out.hash S8.out.k (S8.out.pos H0.out) (S8.out.args (.slice qx Na kx, A) (by simp)).1 (S8.out.args (.slice qx Na kx, A) (by simp)).2 (by have := HN.out; simp only [List.length_nil]; omega)).mono ?_); rintro e w9 ⟨rfl, hh9, ht9⟩; rw [List.nil_append] at hh9; have S9 := hid (S8.out.turn H0.out ht9 hh9); clear hh9 ht9 S8)
    | (go_at_call 13; (with_reducible refine (hsum_any S9.out.hash S9.out.k (by have := HN.out; omega)).mono ?_); rintro e w10 ⟨rfl, hb10⟩; have S10 := hid (S9.out.next hb10); clear hb10 S9)
    | (refine wpList_store_as rfl 24 _ _ rfl _ (bsv (sha A)) rfl rfl 24 _ (row_new _ _ _) (by rw [size24, bsv_size, sha_len]) (by rw [bsv_size, sha_len]; rfl) (bsv_one _) ?_; intro w11 hst; have S11 := hid (st1_store S10.out hst); clear hst S10)
    | (go_at_call 20; (with_reducible refine (hclone_any S11.out.1.hash).mono ?_); rintro e w12 ⟨g, rfl, hg, hh12, hb12⟩; have T0 := hid (S11.out.1.two S11.out.2.1 S11.out.2.2 hg hb12 hh12); clear hg hh12 hb12 S11)
    | (go_at_call 11; (with_reducible refine (write_any (bs := B) T0.out.hash T0.out.k (Nat.lt_of_lt_of_le H0.out T0.out.lo.1) (T0.out.args (.slice qy Nb ky, B) (by simp)).1 (T0.out.args (.slice qy Nb ky, B) (by simp)).2.1 (by have := HN.out; omega)).mono ?_); rintro e w13 ⟨rfl, hh13, ht13⟩; have T1 := hid (T0.out.turnH H0.out ht13 hh13); clear hh13 ht13 T0)
    | (go_at_call 11; (with_reducible refine (write_any (bs := C) T1.out.twin T1.out.k (Nat.lt_of_lt_of_le H0.out T1.out.lo.2) (T1.out.args (.slice qz Nc kz, C) (by simp)).1 (T1.out.args (.slice qz Nc kz, C) (by simp)).2.2 (by have := HN.out; omega)).mono ?_); rintro e w14 ⟨rfl, hh14, ht14⟩; have T2 := hid (T1.out.turnG H0.out ht14 hh14); clear hh14 ht14 T1))
  have E1 := eql_same (sha A) (sha_len _)
  have E2 := eql_same (sha (A ++ B)) (sha_len _)
  have E3 := eql_same (sha (A ++ C)) (sha_len _)
  have HS2 : (Instr.loadAt 24 (.pointer (some ⟨w10.heap.size, 0, none⟩))).run Tryd.prog w14.drew = .ok (.agg (bsv (sha A))) w14.drew := load24 T2.out.row (sha_len _)
  have T3 := hid (T2.out.next (W' := w14.drew) ((Below.refl _ _).drew))
  clear T2
  refine wp_region_noPanic ?_
  refine any_begin 38 (by kernel_rfl) (by kernel_rfl) ?_
  refine any_take (i := 1) (some 74) rfl rfl (by kernel_rfl) (by kernel_rfl) (by kernel_rfl) (fun _ _ _ h => h) (by rfl) (v := ?v1) ?hy1 ?rest1
  case hy1 => intro w0; go_simp; try with_reducible rfl
  simp only [Act.put, List.setIfInBounds_toArray, List.set_cons_zero, List.set_cons_succ]
  refine any_take (i := 2) (some 75) rfl rfl (by kernel_rfl) (by kernel_rfl) (by kernel_rfl) (fun _ _ _ h => h) (by rfl) (v := ?v2) ?hy2 ?rest2
  case hy2 => intro w0; go_simp; try with_reducible rfl
  simp only [Act.put, List.setIfInBounds_toArray, List.set_cons_zero, List.set_cons_succ]
  refine late_begin (fun W => (Instr.loadAt 24 (.pointer (some ⟨w10.heap.size, 0, none⟩))).run Tryd.prog W = .ok (.agg (bsv (sha A))) W) (fun j => decide (5 ≤ j)) HS2 (fun hS => ?_)
  refine late_take (i := 0) (some 73) rfl rfl (by kernel_rfl) (by kernel_rfl) (by kernel_rfl) (by kernel_rfl) (by kernel_rfl) (fun _ _ _ h => h) (by rfl) (v := .agg (bsv (sha A))) ?hy0 hS ?rest0
  case hy0 => intro w0 hSw; exact load_yields hSw rfl rfl
  simp only [Act.put, List.setIfInBounds_toArray, List.set_cons_zero, List.set_cons_succ]
  clear HS2 hS
  refine wpAnyD_one (i := 3) (by kernel_rfl) rfl (fun K hK => ?_)
  refine step_append_mine (w0 := w14.drew) rfl _ _ rfl none 0 0 rfl [] rfl (mine_nil _) (.slice pa Na ca) rfl A (T3.out.args (.slice pa Na ca, A) (by simp)).1 Na HN.out.1 (by have := HN.out; omega) ?_
  intro qo ko w15 hm15
  have T4 := hid (T3.out.next hm15.below)
  have A4 := hid hm15.arg
  clear hm15 T3
  refine hK _ _ ⟨fun _ => load24 T4.out.row (sha_len _), ?_⟩
  clear hK K
  simp only [Act.put, List.setIfInBounds_toArray]
  refine wpAnyD_one (i := 4) (by kernel_rfl) rfl (fun K hK => ?_)
  go_simp
  go_at_call 8
  refine (sum_any T4.out.k (A4.out.len HN.out.1) (by have := HN.out; simp only [List.nil_append]; omega)).mono ?_
  rintro e w16 ⟨rfl, hb16⟩
  have T5 := hid (T4.out.next hb16)
  clear hb16 T4 A4
  refine hK _ _ ⟨fun _ => load24 T5.out.row (sha_len _), ?_⟩
  clear hK K
  refine late_over (by kernel_rfl) ?_
  refine any_take (i := 5) (some 78) rfl rfl (by kernel_rfl) (by kernel_rfl) (by kernel_rfl) (fun _ _ _ h => h) (by rfl) (v := ?v5) ?hy5 ?rest5
  case hy5 => intro w0; go_simp; try with_reducible rfl
  simp only [Act.put, List.setIfInBounds_toArray, List.set_cons_zero, List.set_cons_succ]
  refine any_take (i := 6) (some 79) rfl rfl (by kernel_rfl) (by kernel_rfl) (by kernel_rfl) (fun _ _ _ h => h) (by rfl) (v := ?v6) ?hy6 ?rest6
  case hy6 => intro w0; go_simp; try with_reducible rfl
  simp only [Act.put, List.setIfInBounds_toArray, List.set_cons_zero, List.set_cons_succ]
  refine any_take (i := 7) (some 80) rfl rfl (by kernel_rfl) (by kernel_rfl) (by kernel_rfl) (fun _ _ _ h => h) (by rfl) (v := ?v7) ?hy7 ?rest7
  case hy7 => intro w0; go_simp; try with_reducible rfl
  simp only [Act.put, List.setIfInBounds_toArray, List.set_cons_zero, List.set_cons_succ]
  refine any_take (i := 9) (some 82) rfl rfl (by kernel_rfl) (by kernel_rfl) (by kernel_rfl) (fun _ _ _ h => h) (by rfl) (v := ?v9) ?hy9 ?rest9
  case hy9 => intro w0; go_simp; try with_reducible rfl
  simp only [Act.put, List.setIfInBounds_toArray, List.set_cons_zero, List.set_cons_succ]
  refine any_one (i := 8) (by kernel_rfl) rfl (fun K hK => ?_)
  go_simp
  go_at_call 13
  refine (hsum_any T5.out.hash T5.out.k (by have := HN.out; have := HAB.out; omega)).mono ?_
  rintro e w17 ⟨rfl, hb⟩
  have T6 := hid (T5.out.next hb); clear hb T5
  refine hK _ _ ?_
  clear hK K
  refine any_one (i := 10) (by kernel_rfl) rfl (fun K hK => ?_)
  go_simp
  go_at_call 8
  refine (sum_any (bs := A ++ B) T6.out.k (T6.out.args (.slice qab (Na + Nb) kab, A ++ B) (by simp)).1 (by have := HN.out; have := HAB.out; omega)).mono ?_
  rintro e w18 ⟨rfl, hb⟩
  have T7 := hid (T6.out.next hb); clear hb T6
  refine hK _ _ ?_
  clear hK K
  refine any_take (i := 11) (some 84) rfl rfl (by kernel_rfl) (by kernel_rfl) (by kernel_rfl) (fun _ _ _ h => h) (by rfl) (v := ?v11) ?hy11 ?rest11
  case hy11 => intro w0; go_simp; try with_reducible rfl
  simp only [Act.put, List.setIfInBounds_toArray, List.set_cons_zero, List.set_cons_succ]
  refine any_take (i := 12) (some 85) rfl rfl (by kernel_rfl) (by kernel_rfl) (by kernel_rfl) (fun _ _ _ h => h) (by rfl) (v := ?v12) ?hy12 ?rest12
  case hy12 => intro w0; go_simp; try with_reducible rfl
  simp only [Act.put, List.setIfInBounds_toArray, List.set_cons_zero, List.set_cons_succ]
  refine any_take (i := 13) (some 86) rfl rfl (by kernel_rfl) (by kernel_rfl) (by kernel_rfl) (fun _ _ _ h => h) (by rfl) (v := ?v13) ?hy13 ?rest13
  case hy13 => intro w0; go_simp; try with_reducible rfl
  simp only [Act.put, List.setIfInBounds_toArray, List.set_cons_zero, List.set_cons_succ]
  refine any_take (i := 14) (some 87) rfl rfl (by kernel_rfl) (by kernel_rfl) (by kernel_rfl) (fun _ _ _ h => h) (by rfl) (v := ?v14) ?hy14 ?rest14
  case hy14 => intro w0; go_simp; try with_reducible rfl
  simp only [Act.put, List.setIfInBounds_toArray, List.set_cons_zero, List.set_cons_succ]
  refine any_take (i := 16) (some 89) rfl rfl (by kernel_rfl) (by kernel_rfl) (by kernel_rfl) (fun _ _ _ h => h) (by rfl) (v := ?v16) ?hy16 ?rest16
  case hy16 => intro w0; go_simp; try with_reducible rfl
  simp only [Act.put, List.setIfInBounds_toArray, List.set_cons_zero, List.set_cons_succ]
  refine any_one (i := 15) (by kernel_rfl) rfl (fun K hK => ?_)
  go_simp
  go_at_call 13
  refine (hsum_any T7.out.twin T7.out.k (by have := HN.out; have := HAC.out; omega)).mono ?_
  rintro e w19 ⟨rfl, hb⟩
  have T8 := hid (T7.out.next hb); clear hb T7
  refine hK _ _ ?_
  clear hK K
  refine any_one (i := 17) (by kernel_rfl) rfl (fun K hK => ?_)
  go_simp
  go_at_call 8
  refine (sum_any (bs := A ++ C) T8.out.k (T8.out.args (.slice qac (Na + Nc) kac, A ++ C) (by simp)).1 (by have := HN.out; have := HAC.out; omega)).mono ?_
  rintro e w20 ⟨rfl, hb⟩
  have T9 := hid (T8.out.next hb); clear hb T8
  refine hK _ _ ?_
  clear hK K
  refine any_take (i := 18) (some 91) rfl rfl (by kernel_rfl) (by kernel_rfl) (by kernel_rfl) (fun _ _ _ h => h) (by rfl) (v := ?v18) ?hy18 ?rest18
  case hy18 => intro w0; go_simp; try with_reducible rfl
  simp only [Act.put, List.setIfInBounds_toArray, List.set_cons_zero, List.set_cons_succ]
  refine any_take (i := 19) (some 92) rfl rfl (by kernel_rfl) (by kernel_rfl) (by kernel_rfl) (fun _ _ _ h => h) (by rfl) (v := ?v19) ?hy19 ?rest19
  case hy19 => intro w0; go_simp; try with_reducible rfl
  simp only [Act.put, List.setIfInBounds_toArray, List.set_cons_zero, List.set_cons_succ]
  refine any_take (i := 20) (some 93) rfl rfl (by kernel_rfl) (by kernel_rfl) (by kernel_rfl) (fun _ _ _ h => h) (by rfl) (v := ?v20) ?hy20 ?rest20
  case hy20 => intro w0; go_simp; try with_reducible rfl
  simp only [Act.put, List.setIfInBounds_toArray, List.set_cons_zero, List.set_cons_succ]
  refine any_take (i := 21) (some 94) rfl rfl (by kernel_rfl) (by kernel_rfl) (by kernel_rfl) (fun _ _ _ h => h) (by rfl) (v := ?v21) ?hy21 ?rest21
  case hy21 => intro w0; go_simp; try with_reducible rfl
  simp only [Act.put, List.setIfInBounds_toArray, List.set_cons_zero, List.set_cons_succ]
  refine any_take (i := 23) (some 96) rfl rfl (by kernel_rfl) (by kernel_rfl) (by kernel_rfl) (fun _ _ _ h => h) (by rfl) (v := ?v23) ?hy23 ?rest23
  case hy23 => intro w0; go_simp; try with_reducible rfl
  simp only [Act.put, List.setIfInBounds_toArray, List.set_cons_zero, List.set_cons_succ]
  refine any_take (i := 24) (some 97) rfl rfl (by kernel_rfl) (by kernel_rfl) (by kernel_rfl) (fun _ _ _ h => h) (by rfl) (v := ?v24) ?hy24 ?rest24
  case hy24 => intro w0; go_simp; try with_reducible rfl
  simp only [Act.put, List.setIfInBounds_toArray, List.set_cons_zero, List.set_cons_succ]
  refine any_one (i := 22) (by kernel_rfl) rfl (fun K hK => ?_)
  go_simp
  go_at_call 12
  refine (hlen_any T9.out.hash (Na + Nb) HAB.out).mono ?_
  rintro e w21 ⟨rfl, rfl⟩
  skip
  refine hK _ _ ?_
  clear hK K
  refine any_take (i := 25) (some 98) rfl rfl (by kernel_rfl) (by kernel_rfl) (by kernel_rfl) (fun _ _ _ h => h) (by rfl) (v := ?v25) ?hy25 ?rest25
  case hy25 => intro w0; go_simp; try with_reducible rfl
  simp only [Act.put, List.setIfInBounds_toArray, List.set_cons_zero, List.set_cons_succ]
  refine any_take (i := 26) (some 99) rfl rfl (by kernel_rfl) (by kernel_rfl) (by kernel_rfl) (fun _ _ _ h => h) (by rfl) (v := ?v26) ?hy26 ?rest26
  case hy26 => intro w0; go_simp; try with_reducible rfl
  simp only [Act.put, List.setIfInBounds_toArray, List.set_cons_zero, List.set_cons_succ]
  refine any_take (i := 27) (some 100) rfl rfl (by kernel_rfl) (by kernel_rfl) (by kernel_rfl) (fun _ _ _ h => h) (by rfl) (v := ?v27) ?hy27 ?rest27
  case hy27 => intro w0; go_simp; try with_reducible rfl
  simp only [Act.put, List.setIfInBounds_toArray, List.set_cons_zero, List.set_cons_succ]
  refine any_take (i := 28) (some 101) rfl rfl (by kernel_rfl) (by kernel_rfl) (by kernel_rfl) (fun _ _ _ h => h) (by rfl) (v := ?v28) ?hy28 ?rest28
  case hy28 => intro w0; go_simp; try with_reducible rfl
  simp only [Act.put, List.setIfInBounds_toArray, List.set_cons_zero, List.set_cons_succ]
  refine any_take (i := 30) (some 103) rfl rfl (by kernel_rfl) (by kernel_rfl) (by kernel_rfl) (fun _ _ _ h => h) (by rfl) (v := ?v30) ?hy30 ?rest30
  case hy30 => intro w0; go_simp; try with_reducible rfl
  simp only [Act.put, List.setIfInBounds_toArray, List.set_cons_zero, List.set_cons_succ]
  refine any_take (i := 31) (some 104) rfl rfl (by kernel_rfl) (by kernel_rfl) (by kernel_rfl) (fun _ _ _ h => h) (by rfl) (v := ?v31) ?hy31 ?rest31
  case hy31 => intro w0; go_simp; try with_reducible rfl
  simp only [Act.put, List.setIfInBounds_toArray, List.set_cons_zero, List.set_cons_succ]
  refine any_one (i := 29) (by kernel_rfl) rfl (fun K hK => ?_)
  go_simp
  go_at_call 12
  refine (hlen_any T9.out.twin (Na + Nc) HAC.out).mono ?_
  rintro e w22 ⟨rfl, rfl⟩
  skip
  refine hK _ _ ?_
  clear hK K
  refine any_take (i := 32) (some 105) rfl rfl (by kernel_rfl) (by kernel_rfl) (by kernel_rfl) (fun _ _ _ h => h) (by rfl) (v := ?v32) ?hy32 ?rest32
  case hy32 => intro w0; go_simp; try with_reducible rfl
  simp only [Act.put, List.setIfInBounds_toArray, List.set_cons_zero, List.set_cons_succ]
  refine any_take (i := 33) (some 106) rfl rfl (by kernel_rfl) (by kernel_rfl) (by kernel_rfl) (fun _ _ _ h => h) (by rfl) (v := ?v33) ?hy33 ?rest33
  case hy33 => intro w0; go_simp; try with_reducible rfl
  simp only [Act.put, List.setIfInBounds_toArray, List.set_cons_zero, List.set_cons_succ]
  refine any_take (i := 34) (some 107) rfl rfl (by kernel_rfl) (by kernel_rfl) (by kernel_rfl) (fun _ _ _ h => h) (by rfl) (v := ?v34) ?hy34 ?rest34
  case hy34 => intro w0; go_simp; try with_reducible rfl
  simp only [Act.put, List.setIfInBounds_toArray, List.set_cons_zero, List.set_cons_succ]
  refine any_one (i := 35) (by kernel_rfl) rfl (fun K hK => ?_)
  go_simp
  go_at_call 14
  refine (sure_any T9.out.k).mono ?_
  rintro e w23 ⟨rfl, hb⟩
  have T10 := hid (T9.out.next hb); clear hb T9
  refine hK _ _ ?_
  clear hK K
  refine any_take (i := 36) (some 109) rfl rfl (by kernel_rfl) (by kernel_rfl) (by kernel_rfl) (fun _ _ _ h => h) (by rfl) (v := ?v36) ?hy36 ?rest36
  case hy36 => intro w0; go_simp; try with_reducible rfl
  simp only [Act.put, List.setIfInBounds_toArray, List.set_cons_zero, List.set_cons_succ]
  refine any_take (i := 37) (some 6) rfl rfl (by kernel_rfl) (by kernel_rfl) (by kernel_rfl) (fun _ _ _ h => h) (by rfl) (v := ?v37) ?hy37 ?rest37
  case hy37 => intro w0; go_simp; try with_reducible rfl
  simp only [Act.put, List.setIfInBounds_toArray, List.set_cons_zero, List.set_cons_succ]
  refine any_done (by kernel_rfl) ?_ _
  refine NoPanic.normal ?_
  go_wp2
  go_ret
  exact ⟨rfl, T10.out.below⟩
theorem cuts_walk (pa pb pc : Option Addr) (Na Nb Nc ca cb cc : Nat) (A B C : List Int) (w : World) (hK : KAt w)
    (ha : ArgAt w (.slice pa Na ca) A) (hb : ArgAt w (.slice pb Nb cb) B) (hc : ArgAt w (.slice pc Nc cc) C) (la : A.length = Na) (lb : B.length = Nb) (lc : C.length = Nc) :
    Calls Tryd.prog 5 #[.slice pa Na ca, .slice pb Nb cb, .slice pc Nc cc] w fun e w' => e = .returned (.bool true) ∧ Below w.heap.size w w' := by
  by_cases h : 5000 < Na ∨ 5000 < Nb ∨ 5000 < Nc
  · exact cuts_long pa pb pc Na Nb Nc ca cb cc w hK h
  · exact cuts_short pa pb pc Na Nb Nc ca cb cc A B C w hK (by omega) (by omega) (by omega) ha hb hc la lb lc
end Go.Proofs.YthfjbfoipmjckaaDoor
