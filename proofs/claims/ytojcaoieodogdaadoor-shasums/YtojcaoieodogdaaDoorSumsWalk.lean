/- The law ShaSums returns true for all bytes and all cuts. -/
import Derived.Test.YtojcaoieodogdaaDoorRSum
import Derived.Test.YtojcaoieodogdaaDoorRText
import Derived.Test.YtojcaoieodogdaaDoorSlices
namespace Go.Proofs.YtojcaoieodogdaaDoor
open Go.RowKit

/-- A sum under way, the document's sum beside it, and slices. -/
structure StS (w W : World) (h f : Nat) (m S : List Int) (L : List (Value × List Int)) : Prop where
  st : St1 w W h m L
  row : RowAt W f (bsv S) 24
  ne : f ≠ h
section
variable {w W W' : World} {h f : Nat} {m m' S : List Int} {L : List (Value × List Int)}
theorem StS.next (H : StS w W h f m S L) (hb : Below W.heap.size W W') : StS w W' h f m S L := ⟨H.st.next hb, H.row.below hb, H.ne⟩
theorem StS.turn (H : StS w W h f m S L) (h0 : 0 < w.heap.size) (ht : Turn h W W') (hh : HoldsH W' h m') : StS w W' h f m' S L := ⟨H.st.turn h0 ht hh, H.row.turn ht H.ne, H.ne⟩
theorem StS.drew (H : StS w W h f m S L) : StS w W.drew h f m S L := H.next ((Below.refl _ _).drew)
theorem st1_at (b : Below w.heap.size w W) (hK : KAt W) (hh : W.heap.size ≤ h) (H : HashAt W' h first8 (List.replicate 64 0) 0) (hb : Below W.heap.size W W') (hL : ∀ q ∈ L, ArgAt W q.1 q.2) : St1 w W' h [] L :=
  ⟨b.trans (hb.mono b.size), hK.below hb, Nat.le_trans b.size hh, ⟨_, _, H, hashed_none⟩, fun q hq => ⟨(hL q hq).below hb, (hL q hq).off hh⟩⟩
end
theorem row_lt_ne {W : World} {f h : Nat} {cs : Array Value} {t : TypeId} (hr : RowAt W f cs t) (hh : W.heap.size ≤ h) : f ≠ h := by have := hr.lt; omega
/-- What is read between the calls. -/
def RdS (W : World) (f : Nat) (B : List Int) (v0 v1 : Value) (T : ByteArray) : Prop := (Instr.loadAt 24 (.pointer (some ⟨f, 0, none⟩))).run Tryd.prog W = .ok (.agg (bsv (sha B))) W ∧ (convert 22 9 v0).run Tryd.prog W = .ok (.string T) W ∧ (convert 22 9 v1).run Tryd.prog W = .ok (.string T) W
theorem StS.rd {w W : World} {h f : Nat} {m B : List Int} {v0 v1 : Value} {T : ByteArray} (H : StS w W h f m (sha B) [(v0, B), (v1, B)]) (hT : strOfNums B = T) : RdS W f B v0 v1 T :=
  ⟨load24 H.row (sha_len _), by rw [← hT]; exact (H.st.args (v0, B) (by simp)).1.conv, by rw [← hT]; exact (H.st.args (v1, B) (by simp)).1.conv⟩
theorem take_more (B : List Int) (p n : Nat) : B.take p ++ (B.drop p).take n = B.take (p + n) := by
  rw [List.take_add]
set_option maxRecDepth 20000 in
set_option maxHeartbeats 4000000 in
theorem sums_walk (pv pc : Option Addr) (N c M cc : Nat) (B : List Int) (w : World) (hK : KAt w) (ha : ArgAt w (.slice pv N c) B) (hN : B.length = N) (hbd : ∀ x ∈ B, 0 ≤ x ∧ x < 256) (hm : N + 72 ≤ 140737488355328) (hc : CutsAt w pc M) (_hM : (M : Int) ≤ 9223372036854775807) :
    Calls Tryd.prog 3 #[.slice pv N c, .slice pc M cc] w fun e w' => e = .returned (.bool true) ∧ Below w.heap.size w w' := by
  have HK := hid hK
  have HA := hid ha
  have HN := hid hN
  have HBD := hid hbd
  have HM := hid hm
  have HC := hid hc
  have H0 := hid hK.lt
  have hNb : (N : Int) ≤ 140737488355328 := by omega
  clear hK ha hN hbd hm hc
  go_enter Tryd.func3, Tryd.ntmps3
  go_wp2_with (first
    | (refine wpList_append_bytes rfl _ _ rfl rfl _ rfl B HA.out (by have := HM.out; have := HN.out; omega) ?_; intro qa ca w1 hm1; rw [HN.out]; have M1 := hid hm1; clear hm1)
    | (go_at_call 8; (with_reducible refine (refSum_any (HA.out.below M1.out.below) HBD.out (by have := HM.out; have := HN.out; omega)).mono ?_); rintro e w2 ⟨rfl, hb2⟩; have B2 := hid hb2; clear hb2)
    | (refine wpList_store_as rfl 24 _ _ rfl _ (bsv (sha B)) rfl rfl 24 _ (row_new _ _ _) (by rw [size24, bsv_size, sha_len]) (by rw [bsv_size, sha_len]; rfl) (bsv_one _) ?_; intro w3 hst; have S3 := hid hst; clear hst)
    | (go_at_call 9; (with_reducible refine (new_any _).mono ?_); rintro e w4 ⟨h, rfl, hh, H, hb⟩; have N4 : Hid (w3.heap.size ≤ h ∧ HashAt w4 h first8 (List.replicate 64 0) 0 ∧ Below w3.heap.size w3 w4) := ⟨hh, H, hb⟩; clear hh H hb))
  obtain ⟨f, hf⟩ : ∃ f, w2.heap.size = f := ⟨_, rfl⟩
  obtain ⟨T, HT⟩ : ∃ T, Hid (strOfNums B = T) := ⟨_, hid rfl⟩
  have T0 : Hid (StS w w4 h f [] (sha B) [(.slice pv N c, B), (.slice qa N ca, B)]) := by
    have b3 : Below w2.heap.size w2 w3 := S3.out.below (below_new w2 _) (Nat.le_refl _)
    have m1 := M1.out.arg
    rw [HN.out] at m1
    have k3 : KAt w3 := ((HK.out.below M1.out.below).below B2.out).below b3
    have bb : Below w.heap.size w w3 := by
      have x1 := M1.out.below
      have x2 := x1.trans (B2.out.mono x1.size)
      exact x2.trans (b3.mono x2.size)
    have hL : ∀ q ∈ [(Value.slice pv N c, B), (Value.slice qa N ca, B)], ArgAt w3 q.1 q.2 := by
      intro q hq
      simp only [List.mem_cons, List.not_mem_nil, or_false] at hq
      rcases hq with rfl | rfl
      · exact ((HA.out.below M1.out.below).below B2.out).below b3
      · exact (m1.below B2.out).below b3
    have hr := S3.out.row
    rw [hf] at hr
    exact ⟨st1_at bb k3 N4.out.1 N4.out.2.1 N4.out.2.2 hL, hr.below N4.out.2.2, row_lt_ne hr N4.out.1⟩
  rw [hf]
  have E1 := eql_same (sha B) (sha_len _)
  clear hf M1 B2 S3 N4
  refine wp_region_noPanic ?_
  refine any_begin 15 (by kernel_rfl) (by kernel_rfl) ?_
  refine late_begin (fun W => RdS W f B (.slice pv N c) (.slice qa N ca) T) (fun _ => false) (T0.out.drew.rd HT.out) (fun hS => ?_)
  refine late_take (i := 0) (some 17) rfl rfl (by kernel_rfl) (by kernel_rfl) (by kernel_rfl) (by kernel_rfl) (by kernel_rfl) (fun _ _ _ h => h) (by rfl) (v := ?v0a) ?hy0a hS ?rest0a
  case hy0a => intro w0 hSw; obtain ⟨z0, z1, z2⟩ := hSw; go_simp; try with_reducible rfl
  simp only [Act.put, List.setIfInBounds_toArray, List.set_cons_zero, List.set_cons_succ]
  refine late_take (i := 1) (some 18) rfl rfl (by kernel_rfl) (by kernel_rfl) (by kernel_rfl) (by kernel_rfl) (by kernel_rfl) (fun _ _ _ h => h) (by rfl) (v := ?v1a) ?hy1a hS ?rest1a
  case hy1a => intro w0 hSw; obtain ⟨z0, z1, z2⟩ := hSw; go_simp; try with_reducible rfl
  simp only [Act.put, List.setIfInBounds_toArray, List.set_cons_zero, List.set_cons_succ]
  refine late_take (i := 2) (some 19) rfl rfl (by kernel_rfl) (by kernel_rfl) (by kernel_rfl) (by kernel_rfl) (by kernel_rfl) (fun _ _ _ h => h) (by rfl) (v := ?v2a) ?hy2a hS ?rest2a
  case hy2a => intro w0 hSw; obtain ⟨z0, z1, z2⟩ := hSw; go_simp; try with_reducible rfl
  simp only [Act.put, List.setIfInBounds_toArray, List.set_cons_zero, List.set_cons_succ]
  refine late_take (i := 3) (some 20) rfl rfl (by kernel_rfl) (by kernel_rfl) (by kernel_rfl) (by kernel_rfl) (by kernel_rfl) (fun _ _ _ h => h) (by rfl) (v := ?v3a) ?hy3a hS ?rest3a
  case hy3a => intro w0 hSw; obtain ⟨z0, z1, z2⟩ := hSw; go_simp; try with_reducible rfl
  simp only [Act.put, List.setIfInBounds_toArray, List.set_cons_zero, List.set_cons_succ]
  refine late_take (i := 5) (some 22) rfl rfl (by kernel_rfl) (by kernel_rfl) (by kernel_rfl) (by kernel_rfl) (by kernel_rfl) (fun _ _ _ h => h) (by rfl) (v := .agg (bsv (sha B))) ?hy5a hS ?rest5a
  case hy5a => intro w0 hSw; exact load_yields hSw.1 rfl rfl
  simp only [Act.put, List.setIfInBounds_toArray, List.set_cons_zero, List.set_cons_succ]
  refine wpAnyD_one (i := 4) (by kernel_rfl) rfl (fun K hK => ?_)
  go_simp
  go_at_call 10
  refine (sum_any (bs := B) T0.out.drew.st.k (T0.out.drew.st.args (.slice qa N ca, B) (by simp)).1 (by have := HM.out; have := HN.out; omega)).mono ?_
  rintro e w5 ⟨rfl, hb⟩
  have T1 := hid (T0.out.drew.next hb)
  clear hb T0
  refine hK _ _ ⟨fun _ => T1.out.rd HT.out, ?_⟩
  clear hK K
  replace hS := T1.out.rd HT.out
  refine late_take (i := 6) (some 23) rfl rfl (by kernel_rfl) (by kernel_rfl) (by kernel_rfl) (by kernel_rfl) (by kernel_rfl) (fun _ _ _ h => h) (by rfl) (v := ?v6a) ?hy6a hS ?rest6a
  case hy6a => intro w0 hSw; obtain ⟨z0, z1, z2⟩ := hSw; go_simp; try with_reducible rfl
  simp only [Act.put, List.setIfInBounds_toArray, List.set_cons_zero, List.set_cons_succ]
  refine late_take (i := 7) (some 24) rfl rfl (by kernel_rfl) (by kernel_rfl) (by kernel_rfl) (by kernel_rfl) (by kernel_rfl) (fun _ _ _ h => h) (by rfl) (v := ?v7a) ?hy7a hS ?rest7a
  case hy7a => intro w0 hSw; obtain ⟨z0, z1, z2⟩ := hSw; go_simp; try with_reducible rfl
  simp only [Act.put, List.setIfInBounds_toArray, List.set_cons_zero, List.set_cons_succ]
  refine late_take (i := 8) (some 25) rfl rfl (by kernel_rfl) (by kernel_rfl) (by kernel_rfl) (by kernel_rfl) (by kernel_rfl) (fun _ _ _ h => h) (by rfl) (v := ?v8a) ?hy8a hS ?rest8a
  case hy8a => intro w0 hSw; obtain ⟨z0, z1, z2⟩ := hSw; go_simp; try with_reducible rfl
  simp only [Act.put, List.setIfInBounds_toArray, List.set_cons_zero, List.set_cons_succ]
  refine late_take (i := 9) (some 26) rfl rfl (by kernel_rfl) (by kernel_rfl) (by kernel_rfl) (by kernel_rfl) (by kernel_rfl) (fun _ _ _ h => h) (by rfl) (v := .agg (bsv (sha B))) ?hy9a hS ?rest9a
  case hy9a => intro w0 hSw; exact load_yields hSw.1 rfl rfl
  simp only [Act.put, List.setIfInBounds_toArray, List.set_cons_zero, List.set_cons_succ]
  refine late_take (i := 11) (some 28) rfl rfl (by kernel_rfl) (by kernel_rfl) (by kernel_rfl) (by kernel_rfl) (by kernel_rfl) (fun _ _ _ h => h) (by rfl) (v := .agg (bsv (sha B))) ?hy11a hS ?rest11a
  case hy11a => intro w0 hSw; exact load_yields hSw.1 rfl rfl
  simp only [Act.put, List.setIfInBounds_toArray, List.set_cons_zero, List.set_cons_succ]
  refine wpAnyD_one (i := 10) (by kernel_rfl) rfl (fun K hK => ?_)
  go_simp
  go_at_call 11
  refine (text_any (sha B) (sha_len _) (sha_bd _) _).mono ?_
  rintro e w6 ⟨rfl, hb⟩
  have T2 := hid (T1.out.next hb)
  clear hb T1
  refine hK _ _ ⟨fun _ => T2.out.rd HT.out, ?_⟩
  clear hK K
  replace hS := T2.out.rd HT.out
  refine wpAnyD_one (i := 12) (by kernel_rfl) rfl (fun K hK => ?_)
  go_simp
  go_at_call 12
  refine (refText_any (sha B) (sha_len _) (sha_bd _) _).mono ?_
  rintro e w7 ⟨rfl, hb⟩
  have T3 := hid (T2.out.next hb)
  clear hb T2
  refine hK _ _ ⟨fun _ => T3.out.rd HT.out, ?_⟩
  clear hK K
  replace hS := T3.out.rd HT.out
  refine late_take (i := 13) (some 30) rfl rfl (by kernel_rfl) (by kernel_rfl) (by kernel_rfl) (by kernel_rfl) (by kernel_rfl) (fun _ _ _ h => h) (by rfl) (v := ?v13a) ?hy13a hS ?rest13a
  case hy13a => intro w0 hSw; obtain ⟨z0, z1, z2⟩ := hSw; go_simp; try with_reducible rfl
  simp only [Act.put, List.setIfInBounds_toArray, List.set_cons_zero, List.set_cons_succ]
  refine late_take (i := 14) (some 31) rfl rfl (by kernel_rfl) (by kernel_rfl) (by kernel_rfl) (by kernel_rfl) (by kernel_rfl) (fun _ _ _ h => h) (by rfl) (v := ?v14a) ?hy14a hS ?rest14a
  case hy14a => intro w0 hSw; obtain ⟨z0, z1, z2⟩ := hSw; go_simp; try with_reducible rfl
  simp only [Act.put, List.setIfInBounds_toArray, List.set_cons_zero, List.set_cons_succ]
  refine late_done (by kernel_rfl) ?_ _
  refine NoPanic.normal ?_
  clear hS
  go_wp2
  go_loopw [8, 9] (fun p i W => ∃ (a k : Nat), a ≤ N ∧ k ≤ 50 ∧ p = .int .i64 a ∧ i = .int .i64 k ∧ Hid (StS w W h f (B.take a) (sha B) [(.slice pv N c, B), (.slice qa N ca, B)])) (fun _ i _ => 50 - (intOf i).toNat)
  case atStart => exact ⟨0, 0, Nat.zero_le _, Nat.zero_le _, rfl, rfl, by rw [List.take_zero]; exact T3⟩
  case round =>
    clear T3
    obtain ⟨a, k, ha, hk, rfl, rfl, HP⟩ := hrel
    obtain ⟨V, hV⟩ : ∃ V, V = wr := ⟨_, rfl⟩
    rw [← hV] at HP ⊢
    clear hV
    have ha' : (a : Int) ≤ N := by omega
    by_cases hlt : k < M ∧ k < 50
    · have hlt1 : (k : Int) < M := by omega
      have hlt2 : (k : Int) < 50 := by omega
      obtain ⟨b, o, x, rfl, hb, hx⟩ := HC.out k hlt.1
      have c0 : V.cell? ⟨b, o + k, none⟩ = some (.int .i64 x) := (HP.out.st.below.cell (p := ⟨b, o + k, none⟩) hb).trans hx
      have HHB := hid hb
      clear hb hx
      obtain ⟨d, hd, hd1⟩ : ∃ d : Nat, (IntKind.u64.wrap x).tmod 100 = d ∧ (d : Int) < 100 := by
        have h1 : 0 ≤ IntKind.u64.wrap x := by rw [IntKind.wrap_u64]; omega
        rw [Int.tmod_eq_emod_of_nonneg h1]
        exact ⟨(IntKind.u64.wrap x % 100).toNat, by omega, by omega⟩
      obtain ⟨e, he⟩ : ∃ e : Nat, (N : Int) - a = e := ⟨N - a, by omega⟩
      have HE := hid he
      have he1 : (e : Int) ≤ N := by omega
      go_wp2_with (first
        | (refine wpList_min_as rfl _ _ rfl d e rfl rfl ?_; intro n hn1 hn2; have hn3 : (a : Int) + n ≤ N := (by have := HE.out; omega); obtain ⟨q, cq, hq1, hq2, hq3⟩ := slice_lh (HP.out.st.args (.slice qa N ca, B) (by simp)).1 HN.out a n (by omega); have HQ : Hid ((∀ W, (Instr.sliceAt 22 (.slice qa N ca) (some (.int .i64 a)) (some (.int .i64 ((a : Int) + n))) none).run Tryd.prog W = .ok (.slice q n cq) W) ∧ ArgAt V (.slice q n cq) ((B.drop a).take n) ∧ (∀ g, Off g (.slice qa N ca) → Off g (.slice q n cq))) := ⟨hq1, hq2, hq3⟩; clear hq1 hq2 hq3)
        | (refine wpList_slice_lh rfl _ _ _ rfl (.slice qa N ca) (.int .i64 a) (.int .i64 ((a : Int) + n)) (.slice q n cq) rfl rfl rfl HQ.out.1 ?_)
        | (go_at_call 13; (with_reducible refine (write_any (bs := (B.drop a).take n) HP.out.st.hash HP.out.st.k (HP.out.st.pos H0.out) HQ.out.2.1 (HQ.out.2.2 _ (HP.out.st.args (.slice qa N ca, B) (by simp)).2) (by have := HM.out; have := HN.out; simp only [List.length_take, List.length_drop]; omega)).mono ?_); rintro e' w5 ⟨rfl, hh, ht⟩; rw [take_more] at hh; have HP2 := hid (HP.out.turn H0.out ht hh); clear hh ht)
        | (go_at_call 14; (with_reducible refine (hlen_any HP2.out.st.hash (a + n) (by have := HN.out; simp only [List.length_take]; omega)).mono ?_); rintro e' w' ⟨rfl, hw'⟩; have hw2 := hw'.symm; subst hw2))
      go_roundw
      case rel => exact ⟨a + n, k + 1, by omega, by omega, by go_num, by go_num, HP2⟩
      case measure => simp [intOf]; omega
    · have HR : Hid (∃ r : Nat, a + r = N) := ⟨N - a, by omega⟩
      obtain ⟨r, hr⟩ := HR.out
      have HRR := hid hr
      clear hr HR
      obtain ⟨q, cq, hq1, hq2, hq3⟩ := slice_l (HP.out.st.args (.slice qa N ca, B) (by simp)).1 HN.out a r HRR.out
      have HQ : Hid ((∀ W, (Instr.sliceAt 22 (.slice qa N ca) (some (.int .i64 a)) none none).run Tryd.prog W = .ok (.slice q r cq) W) ∧ ArgAt V (.slice q r cq) (B.drop a) ∧ (∀ g, Off g (.slice qa N ca) → Off g (.slice q r cq))) := ⟨hq1, hq2, hq3⟩
      clear hq1 hq2 hq3
      have hways : ¬ (k : Int) < M ∨ ((k : Int) < M ∧ ¬ (k : Int) < 50) := by omega
      clear hlt
      rcases hways with h1 | ⟨h1, h2⟩
      · go_wp2_with (first
          | (refine wpList_slice_l rfl _ _ rfl (.slice qa N ca) (.int .i64 a) (.slice q r cq) rfl rfl HQ.out.1 ?_)
          | (go_at_call 13; (with_reducible refine (write_any (bs := B.drop a) HP.out.st.hash HP.out.st.k (HP.out.st.pos H0.out) HQ.out.2.1 (HQ.out.2.2 _ (HP.out.st.args (.slice qa N ca, B) (by simp)).2) (by have := HM.out; have := HN.out; simp only [List.length_take, List.length_drop]; omega)).mono ?_); rintro e' w5 ⟨rfl, hh, ht⟩; rw [List.take_append_drop] at hh; have Z0 := hid (HP.out.turn H0.out ht hh); clear hh ht HP HQ))
        refine wp_region_noPanic ?_
        refine any_begin 28 (by kernel_rfl) (by kernel_rfl) ?_
        refine late_begin (fun W => RdS W f B (.slice pv N c) (.slice qa N ca) T) (fun _ => false) (Z0.out.drew.rd HT.out) (fun hS => ?_)
        replace Z0 := hid Z0.out.drew
        refine late_take (i := 0) (some 74) rfl rfl (by kernel_rfl) (by kernel_rfl) (by kernel_rfl) (by kernel_rfl) (by kernel_rfl) (fun _ _ _ h => h) (by rfl) (v := ?v0z) ?hy0z hS ?rest0z
        case hy0z => intro w0 hSw; obtain ⟨z0, z1, z2⟩ := hSw; go_simp; try with_reducible rfl
        simp only [Act.put, List.setIfInBounds_toArray, List.set_cons_zero, List.set_cons_succ]
        refine late_take (i := 2) (some 76) rfl rfl (by kernel_rfl) (by kernel_rfl) (by kernel_rfl) (by kernel_rfl) (by kernel_rfl) (fun _ _ _ h => h) (by rfl) (v := .agg (bsv (sha B))) ?hy2z hS ?rest2z
        case hy2z => intro w0 hSw; exact load_yields hSw.1 rfl rfl
        simp only [Act.put, List.setIfInBounds_toArray, List.set_cons_zero, List.set_cons_succ]
        refine wpAnyD_one (i := 1) (by kernel_rfl) rfl (fun K hK => ?_)
        go_simp
        go_at_call 15
        refine (hsum_any Z0.out.st.hash Z0.out.st.k (by have := HM.out; have := HN.out; omega)).mono ?_
        rintro e' w6 ⟨rfl, hb⟩
        replace Z0 := hid (Z0.out.next hb)
        clear hb
        refine hK _ _ ⟨fun _ => Z0.out.rd HT.out, ?_⟩
        clear hK K
        replace hS := Z0.out.rd HT.out
        refine late_take (i := 3) (some 77) rfl rfl (by kernel_rfl) (by kernel_rfl) (by kernel_rfl) (by kernel_rfl) (by kernel_rfl) (fun _ _ _ h => h) (by rfl) (v := ?v3z) ?hy3z hS ?rest3z
        case hy3z => intro w0 hSw; obtain ⟨z0, z1, z2⟩ := hSw; go_simp; try with_reducible rfl
        simp only [Act.put, List.setIfInBounds_toArray, List.set_cons_zero, List.set_cons_succ]
        refine late_take (i := 4) (some 78) rfl rfl (by kernel_rfl) (by kernel_rfl) (by kernel_rfl) (by kernel_rfl) (by kernel_rfl) (fun _ _ _ h => h) (by rfl) (v := ?v4z) ?hy4z hS ?rest4z
        case hy4z => intro w0 hSw; obtain ⟨z0, z1, z2⟩ := hSw; go_simp; try with_reducible rfl
        simp only [Act.put, List.setIfInBounds_toArray, List.set_cons_zero, List.set_cons_succ]
        refine late_take (i := 5) (some 79) rfl rfl (by kernel_rfl) (by kernel_rfl) (by kernel_rfl) (by kernel_rfl) (by kernel_rfl) (fun _ _ _ h => h) (by rfl) (v := ?v5z) ?hy5z hS ?rest5z
        case hy5z => intro w0 hSw; obtain ⟨z0, z1, z2⟩ := hSw; go_simp; try with_reducible rfl
        simp only [Act.put, List.setIfInBounds_toArray, List.set_cons_zero, List.set_cons_succ]
        refine late_take (i := 7) (some 81) rfl rfl (by kernel_rfl) (by kernel_rfl) (by kernel_rfl) (by kernel_rfl) (by kernel_rfl) (fun _ _ _ h => h) (by rfl) (v := .agg (bsv (sha B))) ?hy7z hS ?rest7z
        case hy7z => intro w0 hSw; exact load_yields hSw.1 rfl rfl
        simp only [Act.put, List.setIfInBounds_toArray, List.set_cons_zero, List.set_cons_succ]
        refine wpAnyD_one (i := 6) (by kernel_rfl) rfl (fun K hK => ?_)
        go_simp
        go_at_call 15
        refine (hsum_any Z0.out.st.hash Z0.out.st.k (by have := HM.out; have := HN.out; omega)).mono ?_
        rintro e' w7 ⟨rfl, hb⟩
        replace Z0 := hid (Z0.out.next hb)
        clear hb
        refine hK _ _ ⟨fun _ => Z0.out.rd HT.out, ?_⟩
        clear hK K
        replace hS := Z0.out.rd HT.out
        refine late_take (i := 8) (some 82) rfl rfl (by kernel_rfl) (by kernel_rfl) (by kernel_rfl) (by kernel_rfl) (by kernel_rfl) (fun _ _ _ h => h) (by rfl) (v := ?v8z) ?hy8z hS ?rest8z
        case hy8z => intro w0 hSw; obtain ⟨z0, z1, z2⟩ := hSw; go_simp; try with_reducible rfl
        simp only [Act.put, List.setIfInBounds_toArray, List.set_cons_zero, List.set_cons_succ]
        refine late_take (i := 9) (some 83) rfl rfl (by kernel_rfl) (by kernel_rfl) (by kernel_rfl) (by kernel_rfl) (by kernel_rfl) (fun _ _ _ h => h) (by rfl) (v := ?v9z) ?hy9z hS ?rest9z
        case hy9z => intro w0 hSw; obtain ⟨z0, z1, z2⟩ := hSw; go_simp; try with_reducible rfl
        simp only [Act.put, List.setIfInBounds_toArray, List.set_cons_zero, List.set_cons_succ]
        refine late_take (i := 10) (some 84) rfl rfl (by kernel_rfl) (by kernel_rfl) (by kernel_rfl) (by kernel_rfl) (by kernel_rfl) (fun _ _ _ h => h) (by rfl) (v := ?v10z) ?hy10z hS ?rest10z
        case hy10z => intro w0 hSw; obtain ⟨z0, z1, z2⟩ := hSw; go_simp; try with_reducible rfl
        simp only [Act.put, List.setIfInBounds_toArray, List.set_cons_zero, List.set_cons_succ]
        refine late_take (i := 11) (some 85) rfl rfl (by kernel_rfl) (by kernel_rfl) (by kernel_rfl) (by kernel_rfl) (by kernel_rfl) (fun _ _ _ h => h) (by rfl) (v := ?v11z) ?hy11z hS ?rest11z
        case hy11z => intro w0 hSw; obtain ⟨z0, z1, z2⟩ := hSw; go_simp; try with_reducible rfl
        simp only [Act.put, List.setIfInBounds_toArray, List.set_cons_zero, List.set_cons_succ]
        refine late_take (i := 13) (some 87) rfl rfl (by kernel_rfl) (by kernel_rfl) (by kernel_rfl) (by kernel_rfl) (by kernel_rfl) (fun _ _ _ h => h) (by rfl) (v := ?v13z) ?hy13z hS ?rest13z
        case hy13z => intro w0 hSw; obtain ⟨z0, z1, z2⟩ := hSw; go_simp; try with_reducible rfl
        simp only [Act.put, List.setIfInBounds_toArray, List.set_cons_zero, List.set_cons_succ]
        refine late_take (i := 14) (some 88) rfl rfl (by kernel_rfl) (by kernel_rfl) (by kernel_rfl) (by kernel_rfl) (by kernel_rfl) (fun _ _ _ h => h) (by rfl) (v := ?v14z) ?hy14z hS ?rest14z
        case hy14z => intro w0 hSw; obtain ⟨z0, z1, z2⟩ := hSw; go_simp; try with_reducible rfl
        simp only [Act.put, List.setIfInBounds_toArray, List.set_cons_zero, List.set_cons_succ]
        refine wpAnyD_one (i := 12) (by kernel_rfl) rfl (fun K hK => ?_)
        go_simp
        go_at_call 14
        refine (hlen_any Z0.out.st.hash N HN.out).mono ?_
        rintro e' w' ⟨rfl, rfl⟩
        refine hK _ _ ⟨fun _ => hS, ?_⟩
        clear hK K
        refine late_take (i := 15) (some 89) rfl rfl (by kernel_rfl) (by kernel_rfl) (by kernel_rfl) (by kernel_rfl) (by kernel_rfl) (fun _ _ _ h => h) (by rfl) (v := ?v15z) ?hy15z hS ?rest15z
        case hy15z => intro w0 hSw; obtain ⟨z0, z1, z2⟩ := hSw; go_simp; try with_reducible rfl
        simp only [Act.put, List.setIfInBounds_toArray, List.set_cons_zero, List.set_cons_succ]
        refine late_take (i := 16) (some 90) rfl rfl (by kernel_rfl) (by kernel_rfl) (by kernel_rfl) (by kernel_rfl) (by kernel_rfl) (fun _ _ _ h => h) (by rfl) (v := ?v16z) ?hy16z hS ?rest16z
        case hy16z => intro w0 hSw; obtain ⟨z0, z1, z2⟩ := hSw; go_simp; try with_reducible rfl
        simp only [Act.put, List.setIfInBounds_toArray, List.set_cons_zero, List.set_cons_succ]
        refine late_take (i := 17) (some 91) rfl rfl (by kernel_rfl) (by kernel_rfl) (by kernel_rfl) (by kernel_rfl) (by kernel_rfl) (fun _ _ _ h => h) (by rfl) (v := ?v17z) ?hy17z hS ?rest17z
        case hy17z => intro w0 hSw; obtain ⟨z0, z1, z2⟩ := hSw; go_simp; try with_reducible rfl
        simp only [Act.put, List.setIfInBounds_toArray, List.set_cons_zero, List.set_cons_succ]
        refine late_take (i := 18) (some 92) rfl rfl (by kernel_rfl) (by kernel_rfl) (by kernel_rfl) (by kernel_rfl) (by kernel_rfl) (fun _ _ _ h => h) (by rfl) (v := ?v18z) ?hy18z hS ?rest18z
        case hy18z => intro w0 hSw; obtain ⟨z0, z1, z2⟩ := hSw; go_simp; try with_reducible rfl
        simp only [Act.put, List.setIfInBounds_toArray, List.set_cons_zero, List.set_cons_succ]
        refine late_take (i := 19) (some 93) rfl rfl (by kernel_rfl) (by kernel_rfl) (by kernel_rfl) (by kernel_rfl) (by kernel_rfl) (fun _ _ _ h => h) (by rfl) (v := ?v19z) ?hy19z hS ?rest19z
        case hy19z => intro w0 hSw; obtain ⟨z0, z1, z2⟩ := hSw; go_simp; try with_reducible rfl
        simp only [Act.put, List.setIfInBounds_toArray, List.set_cons_zero, List.set_cons_succ]
        refine late_take (i := 20) (some 94) rfl rfl (by kernel_rfl) (by kernel_rfl) (by kernel_rfl) (by kernel_rfl) (by kernel_rfl) (fun _ _ _ h => h) (by rfl) (v := ?v20z) ?hy20z hS ?rest20z
        case hy20z => intro w0 hSw; obtain ⟨z0, z1, z2⟩ := hSw; go_simp; try with_reducible rfl
        simp only [Act.put, List.setIfInBounds_toArray, List.set_cons_zero, List.set_cons_succ]
        refine late_take (i := 21) (some 95) rfl rfl (by kernel_rfl) (by kernel_rfl) (by kernel_rfl) (by kernel_rfl) (by kernel_rfl) (fun _ _ _ h => h) (by rfl) (v := ?v21z) ?hy21z hS ?rest21z
        case hy21z => intro w0 hSw; obtain ⟨z0, z1, z2⟩ := hSw; go_simp; try with_reducible rfl
        simp only [Act.put, List.setIfInBounds_toArray, List.set_cons_zero, List.set_cons_succ]
        refine late_take (i := 22) (some 96) rfl rfl (by kernel_rfl) (by kernel_rfl) (by kernel_rfl) (by kernel_rfl) (by kernel_rfl) (fun _ _ _ h => h) (by rfl) (v := ?v22z) ?hy22z hS ?rest22z
        case hy22z => intro w0 hSw; obtain ⟨z0, z1, z2⟩ := hSw; go_simp; try with_reducible rfl
        simp only [Act.put, List.setIfInBounds_toArray, List.set_cons_zero, List.set_cons_succ]
        refine late_take (i := 23) (some 97) rfl rfl (by kernel_rfl) (by kernel_rfl) (by kernel_rfl) (by kernel_rfl) (by kernel_rfl) (fun _ _ _ h => h) (by rfl) (v := ?v23z) ?hy23z hS ?rest23z
        case hy23z => intro w0 hSw; obtain ⟨z0, z1, z2⟩ := hSw; go_simp; try with_reducible rfl
        simp only [Act.put, List.setIfInBounds_toArray, List.set_cons_zero, List.set_cons_succ]
        refine late_take (i := 24) (some 98) rfl rfl (by kernel_rfl) (by kernel_rfl) (by kernel_rfl) (by kernel_rfl) (by kernel_rfl) (fun _ _ _ h => h) (by rfl) (v := ?v24z) ?hy24z hS ?rest24z
        case hy24z => intro w0 hSw; obtain ⟨z0, z1, z2⟩ := hSw; go_simp; try with_reducible rfl
        simp only [Act.put, List.setIfInBounds_toArray, List.set_cons_zero, List.set_cons_succ]
        refine wpAnyD_one (i := 25) (by kernel_rfl) rfl (fun K hK => ?_)
        go_simp
        go_at_call 16
        refine (sure_any Z0.out.st.k).mono ?_
        rintro e' w8 ⟨rfl, hb⟩
        replace Z0 := hid (Z0.out.next hb)
        clear hb
        refine hK _ _ ⟨fun _ => Z0.out.rd HT.out, ?_⟩
        clear hK K
        replace hS := Z0.out.rd HT.out
        refine late_take (i := 26) (some 100) rfl rfl (by kernel_rfl) (by kernel_rfl) (by kernel_rfl) (by kernel_rfl) (by kernel_rfl) (fun _ _ _ h => h) (by rfl) (v := ?v26z) ?hy26z hS ?rest26z
        case hy26z => intro w0 hSw; obtain ⟨z0, z1, z2⟩ := hSw; go_simp; try with_reducible rfl
        simp only [Act.put, List.setIfInBounds_toArray, List.set_cons_zero, List.set_cons_succ]
        refine late_take (i := 27) (some 4) rfl rfl (by kernel_rfl) (by kernel_rfl) (by kernel_rfl) (by kernel_rfl) (by kernel_rfl) (fun _ _ _ h => h) (by rfl) (v := ?v27z) ?hy27z hS ?rest27z
        case hy27z => intro w0 hSw; obtain ⟨z0, z1, z2⟩ := hSw; go_simp; try with_reducible rfl
        simp only [Act.put, List.setIfInBounds_toArray, List.set_cons_zero, List.set_cons_succ]
        refine late_done (by kernel_rfl) ?_ _
        refine NoPanic.normal ?_
        clear hS
        go_wp2
        go_ret
        exact ⟨rfl, Z0.out.st.below⟩
      · go_wp2_with (first
          | (refine wpList_slice_l rfl _ _ rfl (.slice qa N ca) (.int .i64 a) (.slice q r cq) rfl rfl HQ.out.1 ?_)
          | (go_at_call 13; (with_reducible refine (write_any (bs := B.drop a) HP.out.st.hash HP.out.st.k (HP.out.st.pos H0.out) HQ.out.2.1 (HQ.out.2.2 _ (HP.out.st.args (.slice qa N ca, B) (by simp)).2) (by have := HM.out; have := HN.out; simp only [List.length_take, List.length_drop]; omega)).mono ?_); rintro e' w5 ⟨rfl, hh, ht⟩; rw [List.take_append_drop] at hh; have Z0 := hid (HP.out.turn H0.out ht hh); clear hh ht HP HQ))
        refine wp_region_noPanic ?_
        refine any_begin 28 (by kernel_rfl) (by kernel_rfl) ?_
        refine late_begin (fun W => RdS W f B (.slice pv N c) (.slice qa N ca) T) (fun _ => false) (Z0.out.drew.rd HT.out) (fun hS => ?_)
        replace Z0 := hid Z0.out.drew
        refine late_take (i := 0) (some 74) rfl rfl (by kernel_rfl) (by kernel_rfl) (by kernel_rfl) (by kernel_rfl) (by kernel_rfl) (fun _ _ _ h => h) (by rfl) (v := ?v0y) ?hy0y hS ?rest0y
        case hy0y => intro w0 hSw; obtain ⟨z0, z1, z2⟩ := hSw; go_simp; try with_reducible rfl
        simp only [Act.put, List.setIfInBounds_toArray, List.set_cons_zero, List.set_cons_succ]
        refine late_take (i := 2) (some 76) rfl rfl (by kernel_rfl) (by kernel_rfl) (by kernel_rfl) (by kernel_rfl) (by kernel_rfl) (fun _ _ _ h => h) (by rfl) (v := .agg (bsv (sha B))) ?hy2y hS ?rest2y
        case hy2y => intro w0 hSw; exact load_yields hSw.1 rfl rfl
        simp only [Act.put, List.setIfInBounds_toArray, List.set_cons_zero, List.set_cons_succ]
        refine wpAnyD_one (i := 1) (by kernel_rfl) rfl (fun K hK => ?_)
        go_simp
        go_at_call 15
        refine (hsum_any Z0.out.st.hash Z0.out.st.k (by have := HM.out; have := HN.out; omega)).mono ?_
        rintro e' w6 ⟨rfl, hb⟩
        replace Z0 := hid (Z0.out.next hb)
        clear hb
        refine hK _ _ ⟨fun _ => Z0.out.rd HT.out, ?_⟩
        clear hK K
        replace hS := Z0.out.rd HT.out
        refine late_take (i := 3) (some 77) rfl rfl (by kernel_rfl) (by kernel_rfl) (by kernel_rfl) (by kernel_rfl) (by kernel_rfl) (fun _ _ _ h => h) (by rfl) (v := ?v3y) ?hy3y hS ?rest3y
        case hy3y => intro w0 hSw; obtain ⟨z0, z1, z2⟩ := hSw; go_simp; try with_reducible rfl
        simp only [Act.put, List.setIfInBounds_toArray, List.set_cons_zero, List.set_cons_succ]
        refine late_take (i := 4) (some 78) rfl rfl (by kernel_rfl) (by kernel_rfl) (by kernel_rfl) (by kernel_rfl) (by kernel_rfl) (fun _ _ _ h => h) (by rfl) (v := ?v4y) ?hy4y hS ?rest4y
        case hy4y => intro w0 hSw; obtain ⟨z0, z1, z2⟩ := hSw; go_simp; try with_reducible rfl
        simp only [Act.put, List.setIfInBounds_toArray, List.set_cons_zero, List.set_cons_succ]
        refine late_take (i := 5) (some 79) rfl rfl (by kernel_rfl) (by kernel_rfl) (by kernel_rfl) (by kernel_rfl) (by kernel_rfl) (fun _ _ _ h => h) (by rfl) (v := ?v5y) ?hy5y hS ?rest5y
        case hy5y => intro w0 hSw; obtain ⟨z0, z1, z2⟩ := hSw; go_simp; try with_reducible rfl
        simp only [Act.put, List.setIfInBounds_toArray, List.set_cons_zero, List.set_cons_succ]
        refine late_take (i := 7) (some 81) rfl rfl (by kernel_rfl) (by kernel_rfl) (by kernel_rfl) (by kernel_rfl) (by kernel_rfl) (fun _ _ _ h => h) (by rfl) (v := .agg (bsv (sha B))) ?hy7y hS ?rest7y
        case hy7y => intro w0 hSw; exact load_yields hSw.1 rfl rfl
        simp only [Act.put, List.setIfInBounds_toArray, List.set_cons_zero, List.set_cons_succ]
        refine wpAnyD_one (i := 6) (by kernel_rfl) rfl (fun K hK => ?_)
        go_simp
        go_at_call 15
        refine (hsum_any Z0.out.st.hash Z0.out.st.k (by have := HM.out; have := HN.out; omega)).mono ?_
        rintro e' w7 ⟨rfl, hb⟩
        replace Z0 := hid (Z0.out.next hb)
        clear hb
        refine hK _ _ ⟨fun _ => Z0.out.rd HT.out, ?_⟩
        clear hK K
        replace hS := Z0.out.rd HT.out
        refine late_take (i := 8) (some 82) rfl rfl (by kernel_rfl) (by kernel_rfl) (by kernel_rfl) (by kernel_rfl) (by kernel_rfl) (fun _ _ _ h => h) (by rfl) (v := ?v8y) ?hy8y hS ?rest8y
        case hy8y => intro w0 hSw; obtain ⟨z0, z1, z2⟩ := hSw; go_simp; try with_reducible rfl
        simp only [Act.put, List.setIfInBounds_toArray, List.set_cons_zero, List.set_cons_succ]
        refine late_take (i := 9) (some 83) rfl rfl (by kernel_rfl) (by kernel_rfl) (by kernel_rfl) (by kernel_rfl) (by kernel_rfl) (fun _ _ _ h => h) (by rfl) (v := ?v9y) ?hy9y hS ?rest9y
        case hy9y => intro w0 hSw; obtain ⟨z0, z1, z2⟩ := hSw; go_simp; try with_reducible rfl
        simp only [Act.put, List.setIfInBounds_toArray, List.set_cons_zero, List.set_cons_succ]
        refine late_take (i := 10) (some 84) rfl rfl (by kernel_rfl) (by kernel_rfl) (by kernel_rfl) (by kernel_rfl) (by kernel_rfl) (fun _ _ _ h => h) (by rfl) (v := ?v10y) ?hy10y hS ?rest10y
        case hy10y => intro w0 hSw; obtain ⟨z0, z1, z2⟩ := hSw; go_simp; try with_reducible rfl
        simp only [Act.put, List.setIfInBounds_toArray, List.set_cons_zero, List.set_cons_succ]
        refine late_take (i := 11) (some 85) rfl rfl (by kernel_rfl) (by kernel_rfl) (by kernel_rfl) (by kernel_rfl) (by kernel_rfl) (fun _ _ _ h => h) (by rfl) (v := ?v11y) ?hy11y hS ?rest11y
        case hy11y => intro w0 hSw; obtain ⟨z0, z1, z2⟩ := hSw; go_simp; try with_reducible rfl
        simp only [Act.put, List.setIfInBounds_toArray, List.set_cons_zero, List.set_cons_succ]
        refine late_take (i := 13) (some 87) rfl rfl (by kernel_rfl) (by kernel_rfl) (by kernel_rfl) (by kernel_rfl) (by kernel_rfl) (fun _ _ _ h => h) (by rfl) (v := ?v13y) ?hy13y hS ?rest13y
        case hy13y => intro w0 hSw; obtain ⟨z0, z1, z2⟩ := hSw; go_simp; try with_reducible rfl
        simp only [Act.put, List.setIfInBounds_toArray, List.set_cons_zero, List.set_cons_succ]
        refine late_take (i := 14) (some 88) rfl rfl (by kernel_rfl) (by kernel_rfl) (by kernel_rfl) (by kernel_rfl) (by kernel_rfl) (fun _ _ _ h => h) (by rfl) (v := ?v14y) ?hy14y hS ?rest14y
        case hy14y => intro w0 hSw; obtain ⟨z0, z1, z2⟩ := hSw; go_simp; try with_reducible rfl
        simp only [Act.put, List.setIfInBounds_toArray, List.set_cons_zero, List.set_cons_succ]
        refine wpAnyD_one (i := 12) (by kernel_rfl) rfl (fun K hK => ?_)
        go_simp
        go_at_call 14
        refine (hlen_any Z0.out.st.hash N HN.out).mono ?_
        rintro e' w' ⟨rfl, rfl⟩
        refine hK _ _ ⟨fun _ => hS, ?_⟩
        clear hK K
        refine late_take (i := 15) (some 89) rfl rfl (by kernel_rfl) (by kernel_rfl) (by kernel_rfl) (by kernel_rfl) (by kernel_rfl) (fun _ _ _ h => h) (by rfl) (v := ?v15y) ?hy15y hS ?rest15y
        case hy15y => intro w0 hSw; obtain ⟨z0, z1, z2⟩ := hSw; go_simp; try with_reducible rfl
        simp only [Act.put, List.setIfInBounds_toArray, List.set_cons_zero, List.set_cons_succ]
        refine late_take (i := 16) (some 90) rfl rfl (by kernel_rfl) (by kernel_rfl) (by kernel_rfl) (by kernel_rfl) (by kernel_rfl) (fun _ _ _ h => h) (by rfl) (v := ?v16y) ?hy16y hS ?rest16y
        case hy16y => intro w0 hSw; obtain ⟨z0, z1, z2⟩ := hSw; go_simp; try with_reducible rfl
        simp only [Act.put, List.setIfInBounds_toArray, List.set_cons_zero, List.set_cons_succ]
        refine late_take (i := 17) (some 91) rfl rfl (by kernel_rfl) (by kernel_rfl) (by kernel_rfl) (by kernel_rfl) (by kernel_rfl) (fun _ _ _ h => h) (by rfl) (v := ?v17y) ?hy17y hS ?rest17y
        case hy17y => intro w0 hSw; obtain ⟨z0, z1, z2⟩ := hSw; go_simp; try with_reducible rfl
        simp only [Act.put, List.setIfInBounds_toArray, List.set_cons_zero, List.set_cons_succ]
        refine late_take (i := 18) (some 92) rfl rfl (by kernel_rfl) (by kernel_rfl) (by kernel_rfl) (by kernel_rfl) (by kernel_rfl) (fun _ _ _ h => h) (by rfl) (v := ?v18y) ?hy18y hS ?rest18y
        case hy18y => intro w0 hSw; obtain ⟨z0, z1, z2⟩ := hSw; go_simp; try with_reducible rfl
        simp only [Act.put, List.setIfInBounds_toArray, List.set_cons_zero, List.set_cons_succ]
        refine late_take (i := 19) (some 93) rfl rfl (by kernel_rfl) (by kernel_rfl) (by kernel_rfl) (by kernel_rfl) (by kernel_rfl) (fun _ _ _ h => h) (by rfl) (v := ?v19y) ?hy19y hS ?rest19y
        case hy19y => intro w0 hSw; obtain ⟨z0, z1, z2⟩ := hSw; go_simp; try with_reducible rfl
        simp only [Act.put, List.setIfInBounds_toArray, List.set_cons_zero, List.set_cons_succ]
        refine late_take (i := 20) (some 94) rfl rfl (by kernel_rfl) (by kernel_rfl) (by kernel_rfl) (by kernel_rfl) (by kernel_rfl) (fun _ _ _ h => h) (by rfl) (v := ?v20y) ?hy20y hS ?rest20y
        case hy20y => intro w0 hSw; obtain ⟨z0, z1, z2⟩ := hSw; go_simp; try with_reducible rfl
        simp only [Act.put, List.setIfInBounds_toArray, List.set_cons_zero, List.set_cons_succ]
        refine late_take (i := 21) (some 95) rfl rfl (by kernel_rfl) (by kernel_rfl) (by kernel_rfl) (by kernel_rfl) (by kernel_rfl) (fun _ _ _ h => h) (by rfl) (v := ?v21y) ?hy21y hS ?rest21y
        case hy21y => intro w0 hSw; obtain ⟨z0, z1, z2⟩ := hSw; go_simp; try with_reducible rfl
        simp only [Act.put, List.setIfInBounds_toArray, List.set_cons_zero, List.set_cons_succ]
        refine late_take (i := 22) (some 96) rfl rfl (by kernel_rfl) (by kernel_rfl) (by kernel_rfl) (by kernel_rfl) (by kernel_rfl) (fun _ _ _ h => h) (by rfl) (v := ?v22y) ?hy22y hS ?rest22y
        case hy22y => intro w0 hSw; obtain ⟨z0, z1, z2⟩ := hSw; go_simp; try with_reducible rfl
        simp only [Act.put, List.setIfInBounds_toArray, List.set_cons_zero, List.set_cons_succ]
        refine late_take (i := 23) (some 97) rfl rfl (by kernel_rfl) (by kernel_rfl) (by kernel_rfl) (by kernel_rfl) (by kernel_rfl) (fun _ _ _ h => h) (by rfl) (v := ?v23y) ?hy23y hS ?rest23y
        case hy23y => intro w0 hSw; obtain ⟨z0, z1, z2⟩ := hSw; go_simp; try with_reducible rfl
        simp only [Act.put, List.setIfInBounds_toArray, List.set_cons_zero, List.set_cons_succ]
        refine late_take (i := 24) (some 98) rfl rfl (by kernel_rfl) (by kernel_rfl) (by kernel_rfl) (by kernel_rfl) (by kernel_rfl) (fun _ _ _ h => h) (by rfl) (v := ?v24y) ?hy24y hS ?rest24y
        case hy24y => intro w0 hSw; obtain ⟨z0, z1, z2⟩ := hSw; go_simp; try with_reducible rfl
        simp only [Act.put, List.setIfInBounds_toArray, List.set_cons_zero, List.set_cons_succ]
        refine wpAnyD_one (i := 25) (by kernel_rfl) rfl (fun K hK => ?_)
        go_simp
        go_at_call 16
        refine (sure_any Z0.out.st.k).mono ?_
        rintro e' w8 ⟨rfl, hb⟩
        replace Z0 := hid (Z0.out.next hb)
        clear hb
        refine hK _ _ ⟨fun _ => Z0.out.rd HT.out, ?_⟩
        clear hK K
        replace hS := Z0.out.rd HT.out
        refine late_take (i := 26) (some 100) rfl rfl (by kernel_rfl) (by kernel_rfl) (by kernel_rfl) (by kernel_rfl) (by kernel_rfl) (fun _ _ _ h => h) (by rfl) (v := ?v26y) ?hy26y hS ?rest26y
        case hy26y => intro w0 hSw; obtain ⟨z0, z1, z2⟩ := hSw; go_simp; try with_reducible rfl
        simp only [Act.put, List.setIfInBounds_toArray, List.set_cons_zero, List.set_cons_succ]
        refine late_take (i := 27) (some 4) rfl rfl (by kernel_rfl) (by kernel_rfl) (by kernel_rfl) (by kernel_rfl) (by kernel_rfl) (fun _ _ _ h => h) (by rfl) (v := ?v27y) ?hy27y hS ?rest27y
        case hy27y => intro w0 hSw; obtain ⟨z0, z1, z2⟩ := hSw; go_simp; try with_reducible rfl
        simp only [Act.put, List.setIfInBounds_toArray, List.set_cons_zero, List.set_cons_succ]
        refine late_done (by kernel_rfl) ?_ _
        refine NoPanic.normal ?_
        clear hS
        go_wp2
        go_ret
        exact ⟨rfl, Z0.out.st.below⟩
end Go.Proofs.YtojcaoieodogdaaDoor
