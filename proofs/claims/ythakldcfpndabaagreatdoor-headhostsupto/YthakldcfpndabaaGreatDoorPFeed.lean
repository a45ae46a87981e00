/- The program's reader: it is fed. -/
import Derived.Test.YthakldcfpndabaaGreatDoorPTake
namespace Go.Proofs.YthakldcfpndabaaGreatDoor
open Go.RowKit

/-- What every reader keeps. -/
structure InvP (s : PS) : Prop where
  most : s.most ≤ 65536
  st : s.st ≤ 11
  part : s.part.length ≤ s.taken
  fields : s.fields.length ≤ 64
  low : s.err = 0 → s.taken ≤ 65536
  high : s.taken ≤ 65537
theorem keep_shape (s : PS) : (keepP s).part = [] ∧ (keepP s).most = s.most ∧ (keepP s).fields = s.fields ∧ (keepP s).err = s.err ∧ (keepP s).resp = s.resp := by
  by_cases h0 : s.st = 0
  · rw [keep0 h0]; exact ⟨rfl, rfl, rfl, rfl, rfl⟩
  by_cases h1 : s.st = 1
  · rw [keep1 h1]; exact ⟨rfl, rfl, rfl, rfl, rfl⟩
  by_cases h2 : s.st = 2 ∨ s.st = 3
  · rw [keep2 h2]; exact ⟨rfl, rfl, rfl, rfl, rfl⟩
  by_cases h4 : s.st = 4
  · rw [keep4 h4]; exact ⟨rfl, rfl, rfl, rfl, rfl⟩
  by_cases h5 : s.st = 5
  · rw [keep5 h5]; exact ⟨rfl, rfl, rfl, rfl, rfl⟩
  by_cases h7 : s.st = 7
  · rw [keep7 h7]; exact ⟨rfl, rfl, rfl, rfl, rfl⟩
  by_cases h8 : s.st = 8
  · rw [keep8 h8]; exact ⟨rfl, rfl, rfl, rfl, rfl⟩
  unfold keepP
  rw [if_neg h0, if_neg h1, if_neg h2, if_neg h4, if_neg h5, if_neg h7, if_neg h8]
  exact ⟨rfl, rfl, rfl, rfl, rfl⟩
/-- What a step leaves. -/
structure StepI (s s' : PS) : Prop where
  most : s'.most = s.most
  err : s'.err = s.err
  resp : s'.resp = s.resp
  st : s'.st ≤ 11
  part : s'.part.length ≤ s.part.length + 1
theorem row_inv {s s' : PS} {c x : UInt8} {may done : Bool} {n : Nat} (hn : n ≤ 11) (hs : s.st ≤ 11) (e : rowP s c may x done n = some s') : StepI s s' := by
  by_cases hx : c = x ∧ done = true
  · rw [row_end hx.1 hx.2] at e
    cases e
    obtain ⟨h1, h2, h3, h4, h5⟩ := keep_shape s
    exact ⟨h2, h4, h5, hn, by dsimp only; rw [h1]; simp⟩
  · cases hm : may with
    | false => rw [row_no hx hm] at e; cases e
    | true => rw [row_on hx hm] at e; cases e; exact ⟨rfl, rfl, rfl, hs, by simp⟩
theorem end_inv {s s' : PS} {c : UInt8} {n : Nat} (hn : n ≤ 11) (e : endP s c n = some s') : StepI s s' := by
  unfold endP at e
  by_cases hc : c = 10
  · rw [if_pos hc] at e; cases e; exact ⟨rfl, rfl, rfl, hn, by simp⟩
  · rw [if_neg hc] at e; cases e
theorem step_inv {s s' : PS} {c : UInt8} (hs : s.st ≤ 11) (e : stepP s c = some s') : StepI s s' := by
  by_cases h0 : s.st = 0
  · rw [step_0 c h0] at e; exact row_inv (by omega) hs e
  by_cases h1 : s.st = 1
  · rw [step_1 c h1] at e; exact row_inv (by omega) hs e
  by_cases h2 : s.st = 2
  · rw [step_2 c h2] at e; exact row_inv (by omega) hs e
  by_cases h3 : s.st = 3
  · rw [step_3 c h3] at e; exact row_inv (by omega) hs e
  by_cases h4 : s.st = 4
  · rw [step_4 c h4] at e; exact row_inv (by omega) hs e
  by_cases h5 : s.st = 5
  · rw [step_5 c h5] at e; exact row_inv (by omega) hs e
  by_cases h6 : s.st = 6
  · rw [step_6 c h6] at e; exact end_inv (by omega) e
  by_cases h7 : s.st = 7
  · rw [step_7 c h7] at e
    by_cases hc : s.part.length = 0 ∧ c = 13
    · rw [if_pos hc] at e; cases e; exact ⟨rfl, rfl, rfl, by simp, by simp⟩
    · rw [if_neg hc] at e; exact row_inv (by omega) hs e
  by_cases h8 : s.st = 8
  · rw [step_8 c h8] at e; exact row_inv (by omega) hs e
  by_cases h9 : s.st = 9
  · rw [step_9 c h9] at e; exact end_inv (by omega) e
  by_cases h10 : s.st = 10
  · rw [step_10 c h10] at e; exact end_inv (by omega) e
  unfold stepP at e
  rw [if_neg h0, if_neg h1, if_neg h2, if_neg h3, if_neg h4, if_neg h5, if_neg h6, if_neg h7, if_neg h8, if_neg h9, if_neg h10] at e
  cases e
theorem spoil_inv {t e : Nat} (he : e ≠ 0) (ht : t ≤ 65537) : InvP (spoilP t e) := ⟨by simp [spoilP], by simp [spoilP], by simp [spoilP], by simp [spoilP], fun h => absurd h he, ht⟩
theorem take_inv {s : PS} (c : UInt8) (h : InvP s) (hn : endedP s = false) : InvP (takeP s c) := by
  have hne : s.st ≠ 11 ∧ s.err = 0 := by unfold endedP at hn; simpa using hn
  have hlow := h.low hne.2
  by_cases hm : s.most < (s.taken : Int) + 1
  · rw [take_size hm]; exact spoil_inv (by decide) (by omega)
  · cases hs : stepP { s with taken := s.taken + 1 } c with
    | none => rw [take_none hm hs]; exact spoil_inv (fault_ne _) (by omega)
    | some s' =>
      by_cases h64 : 64 < s'.fields.length
      · rw [take_many hm hs h64]; exact spoil_inv (by decide) (by omega)
      · rw [take_some hm hs h64]
        have h1 := step_inv (s := { s with taken := s.taken + 1 }) h.st hs
        have h2 : s'.taken = s.taken + 1 := step_taken hs
        have hmo := h.most
        have hpa := h.part
        exact ⟨by rw [h1.most]; exact h.most, h1.st, by have := h1.part; dsimp only at this; omega, by omega, fun _ => by omega, by omega⟩
theorem feed_inv : ∀ (l : B) {s : PS}, InvP s → InvP (feedP s l)
  | [], _, h => h
  | c :: l, s, h => by
    unfold feedP
    split
    · exact h
    · rename_i hn
      exact feed_inv l (take_inv c h (by simpa using hn))
theorem feed_resp : ∀ (l : B) {s : PS}, s.st ≤ 11 → (feedP s l).err = 0 → (feedP s l).resp = s.resp
  | [], _, _, _ => rfl
  | c :: l, s, h11, he => by
    cases hs : endedP s with
    | true => rw [(feed_ended hs _).1]
    | false =>
      have e1 : feedP s (c :: l) = feedP (takeP s c) l := by rw [feedP, if_neg (by rw [hs]; simp)]
      rw [e1] at he ⊢
      rcases take_cases s c with ⟨e, h0, e2⟩ | e2
      · rw [e2, (feed_ended (spoil_ended h0) l).1] at he
        exact absurd he h0
      · have h1 := step_inv (s := { s with taken := s.taken + 1 }) h11 e2
        rw [feed_resp l h1.st he, h1.resp]
theorem new_inv {r : Bool} {m : Int} (hm : m ≤ 65536) : InvP (newP r m) := ⟨hm, by unfold newP; cases r <;> simp, by simp [newP], by simp [newP], fun _ => by simp [newP], by simp [newP]⟩
/-- Bytes that are handed in. -/
def ArgAt (w : World) (p : Option Addr) (l : B) : Prop := ∀ i y, l[i]? = some y → ∃ g o, p = some ⟨g, o, none⟩ ∧ w.cell? ⟨g, o + i, none⟩ = some (.int .u8 (y.toNat : Int))
def ArgOut (F : Nat → Prop) (p : Option Addr) (l : B) : Prop := ∀ a, p = some a → l ≠ [] → ¬ F a.block
theorem ArgAt.out {F : Nat → Prop} {w : World} {p : Option Addr} {l : B} (h : ArgAt w p l) (hF : ∀ k, F k → w.heap.size ≤ k) : ArgOut F p l := by
  intro a e hl hf
  cases l with
  | nil => exact hl rfl
  | cons y r =>
    obtain ⟨g, o, e2, hc⟩ := h 0 y rfl
    have := lt_of_cell hc
    rw [e] at e2
    have e3 := Option.some.inj e2
    have := hF _ hf
    rw [e3] at this
    dsimp only at this
    omega
theorem cell_only {F : Nat → Prop} {w w' : World} (h : Only F w w') {k o : Nat} {v : Value} (hk : ¬ F k) (hc : w.cell? ⟨k, o, none⟩ = some v) : w'.cell? ⟨k, o, none⟩ = some v := by
  have := h.block k (lt_of_cell hc) hk
  unfold World.cell? at hc ⊢
  rw [this]
  exact hc
theorem ArgAt.only {F : Nat → Prop} {w w' : World} {p : Option Addr} {l : B} (h : ArgAt w p l) (ho : Only F w w') (hp : ArgOut F p l) : ArgAt w' p l := by
  intro i y hi
  obtain ⟨g, o, e, hc⟩ := h i y hi
  exact ⟨g, o, e, cell_only ho (hp _ e (by rintro rfl; simp at hi)) hc⟩
theorem ArgAt.next {w w' : World} {p : Option Addr} {l : B} (h : ArgAt w p l) (hb : Below w.heap.size w w') : ArgAt w' p l := by
  intro i y hi
  obtain ⟨g, o, e, hc⟩ := h i y hi
  exact ⟨g, o, e, cell_keep hb hc⟩
theorem Own.arg {w : World} {N n c : Nat} {p : Option Addr} {l : B} (h : Own w N (.slice p n c) l) : ArgAt w p l := fun _ _ hi => h.at hi
def fedV (s : PS) (n : Nat) : Value := .tuple #[.int .i64 (n : Int), .bool (decide (s.st = 11)), errOf s.err]
theorem take_snocB {l : B} {i : Nat} {y : UInt8} (h : l[i]? = some y) : l.take (i + 1) = l.take i ++ [y] := by rw [List.take_add_one, h]; rfl
theorem feed_done {s : PS} {l : B} {i : Nat} (hn : feedN s (l.take i) = i) (he : endedP (feedP s (l.take i)) = true) : feedP s l = feedP s (l.take i) ∧ feedN s l = i := by
  have e1 := feed_app (l.take i) (l.drop i) s
  have e2 := feedN_app (l.take i) (l.drop i) s
  rw [List.take_append_drop] at e1 e2
  rw [(feed_ended he _).1] at e1
  rw [(feed_ended he _).2, hn] at e2
  exact ⟨e1, by omega⟩
theorem feed_more {s : PS} {l : B} {i : Nat} {y : UInt8} (hn : feedN s (l.take i) = i) (he : endedP (feedP s (l.take i)) = false) (hy : l[i]? = some y) : feedP s (l.take (i + 1)) = takeP (feedP s (l.take i)) y ∧ feedN s (l.take (i + 1)) = i + 1 := by
  rw [take_snocB hy, feed_app, feedN_app, hn]
  have h1 : ¬ endedP (feedP s (l.take i)) = true := by rw [he]; simp
  refine ⟨?_, ?_⟩
  · rw [feedP, if_neg h1]; rfl
  · rw [feedN, if_neg h1]; rfl
set_option maxRecDepth 20000 in
set_option maxHeartbeats 8000000 in
theorem feed_any {F : Nat → Prop} {w : World} {g : Nat} {s : PS} (h : RdAt F w g s) (hi : InvP s) (l : B) (p : Option Addr) (n c : Nat) (hn : l.length = n) (ha : ArgAt w p l) (hp : ArgOut F p l) (hl : n ≤ 140737488355328) :
    Calls Tryz.prog 53 #[.pointer (some ⟨g, 0, none⟩), .slice p n c] w fun e w' => e = .returned (fedV (feedP s l) (feedN s l)) ∧ Turned F w g (feedP s l) w' := by
  have H := hid h
  have HI := hid hi
  have HA := hid ha
  have HP := hid hp
  have HN := hid hn
  clear h hi ha hp hn
  go_enter Tryz.func53, Tryz.ntmps53
  go_wp2
  go_loopg [14] (n + 1) (fun gk s14 wr => ∃ (i : Nat) (G : Nat → Prop), s14 = .int .i64 (i : Int) ∧ i ≤ n ∧ gk = n - i + 1 ∧ RdAt G wr g (feedP s (l.take i)) ∧ Only F w wr ∧ (∀ k, G k → F k ∨ w.heap.size ≤ k) ∧ feedN s (l.take i) = i)
  case atStart => exact ⟨0, F, rfl, by omega, rfl, by simpa [feedP] using H.out, Only.refl _ _, fun _ h => .inl h, by simp [feedN]⟩
  case round =>
    obtain ⟨i, G, rfl, hin, rfl, hr, ho, hg, hfn⟩ := hrel
    have HR := hid hr
    have HO := hid ho
    have HG := hid hg
    have HFn := hid hfn
    have HIi := hid (feed_inv (l.take i) HI.out)
    obtain ⟨S, hS⟩ : ∃ S, feedP s (l.take i) = S := ⟨_, rfl⟩
    have HS := hid hS
    rw [hS] at HR HIi
    clear hr ho hg hfn hS
    obtain ⟨_, _, k3, k4⟩ := HR.out.cells
    have K3 := hid k3
    have HWh := hid (whole_any g S.st wr.drew k4)
    have HEn := hid (ended_any g S.st S.err wr k3 k4)
    obtain ⟨wv, hwv⟩ : ∃ wv, decide (S.st = 11) = wv := ⟨_, rfl⟩
    have HWv := hid hwv
    obtain ⟨E, hE⟩ : ∃ E, errOf S.err = E := ⟨_, rfl⟩
    have HE := hid hE
    rw [hwv] at HWh
    rw [hE] at k3 K3
    clear hwv hE
    by_cases hlt : i < n
    · obtain ⟨y, hy⟩ : ∃ y, l[i]? = some y := ⟨l[i]'(by rw [HN.out]; exact hlt), List.getElem?_eq_getElem (by rw [HN.out]; exact hlt)⟩
      obtain ⟨ag, ao, hap, hac⟩ := HA.out i y hy
      have hac2 := cell_only HO.out (HP.out _ hap (by rintro rfl; simp at hy)) hac
      subst hap
      have HY := hid hy
      have hltI : (i : Int) < (n : Int) := by omega
      cases hend : endedP S with
      | true =>
        have HD := hid (feed_done HFn.out (by rw [HS.out]; exact hend))
        have hend2 : (decide (S.st = 11) || decide (S.err ≠ 0)) = true := hend
        rw [hend2] at HEn
        clear hy hac hend hend2
        go_wp2_with (go_at_call 66; (with_reducible refine HEn.out.mono ?_); rintro e w1 ⟨rfl, hw1⟩; subst w1)
        refine wp_region_noPanic ?_
        refine any_begin 10 (by kernel_rfl) (by kernel_rfl) ?_
        refine late_begin (fun U => U.cell? ⟨g, 3, none⟩ = some E) (fun _ => false) (show wr.drew.cell? ⟨g, 3, none⟩ = some E from k3) (fun hS => ?_)
        refine late_take (i := 0) (some 21) rfl rfl (by kernel_rfl) (by kernel_rfl) (by kernel_rfl) (by kernel_rfl) (by kernel_rfl) (fun _ _ _ h => h) (by rfl) (v := ?v0r) ?hy0r hS ?rest0r
        case hy0r => intro w0 hSw; (try dsimp only at hSw); go_simp; try with_reducible rfl
        simp only [Act.put, List.setIfInBounds_toArray, List.set_cons_zero, List.set_cons_succ]
        refine late_take (i := 1) (some 22) rfl rfl (by kernel_rfl) (by kernel_rfl) (by kernel_rfl) (by kernel_rfl) (by kernel_rfl) (fun _ _ _ h => h) (by rfl) (v := ?v1r) ?hy1r hS ?rest1r
        case hy1r => intro w0 hSw; (try dsimp only at hSw); go_simp; try with_reducible rfl
        simp only [Act.put, List.setIfInBounds_toArray, List.set_cons_zero, List.set_cons_succ]
        refine late_take (i := 3) (some 24) rfl rfl (by kernel_rfl) (by kernel_rfl) (by kernel_rfl) (by kernel_rfl) (by kernel_rfl) (fun _ _ _ h => h) (by rfl) (v := ?v3r) ?hy3r hS ?rest3r
        case hy3r => intro w0 hSw; (try dsimp only at hSw); go_simp; try with_reducible rfl
        simp only [Act.put, List.setIfInBounds_toArray, List.set_cons_zero, List.set_cons_succ]
        refine late_take (i := 4) (some 25) rfl rfl (by kernel_rfl) (by kernel_rfl) (by kernel_rfl) (by kernel_rfl) (by kernel_rfl) (fun _ _ _ h => h) (by rfl) (v := ?v4r) ?hy4r hS ?rest4r
        case hy4r => intro w0 hSw; (try dsimp only at hSw); go_simp; try with_reducible rfl
        simp only [Act.put, List.setIfInBounds_toArray, List.set_cons_zero, List.set_cons_succ]
        refine late_take (i := 5) (some 26) rfl rfl (by kernel_rfl) (by kernel_rfl) (by kernel_rfl) (by kernel_rfl) (by kernel_rfl) (fun _ _ _ h => h) (by rfl) (v := ?v5r) ?hy5r hS ?rest5r
        case hy5r => intro w0 hSw; (try dsimp only at hSw); go_simp; try with_reducible rfl
        simp only [Act.put, List.setIfInBounds_toArray, List.set_cons_zero, List.set_cons_succ]
        refine late_take (i := 6) (some 27) rfl rfl (by kernel_rfl) (by kernel_rfl) (by kernel_rfl) (by kernel_rfl) (by kernel_rfl) (fun _ _ _ h => h) (by rfl) (v := ?v6r) ?hy6r hS ?rest6r
        case hy6r => intro w0 hSw; (try dsimp only at hSw); go_simp; try with_reducible rfl
        simp only [Act.put, List.setIfInBounds_toArray, List.set_cons_zero, List.set_cons_succ]
        refine wpAnyD_one (i := 2) (by kernel_rfl) rfl (fun K hK => ?_)
        go_simp
        go_at_call 54
        refine HWh.out.mono ?_
        rintro e w2 ⟨rfl, hw2⟩
        subst w2
        refine hK _ _ ⟨fun _ => hS, ?_⟩
        clear hK K
        refine late_take (i := 7) (some 4) rfl rfl (by kernel_rfl) (by kernel_rfl) (by kernel_rfl) (by kernel_rfl) (by kernel_rfl) (fun _ _ _ h => h) (by rfl) (v := ?v7r) ?hy7r hS ?rest7r
        case hy7r => intro w0 hSw; (try dsimp only at hSw); go_simp; try with_reducible rfl
        simp only [Act.put, List.setIfInBounds_toArray, List.set_cons_zero, List.set_cons_succ]
        refine late_take (i := 8) (some 5) rfl rfl (by kernel_rfl) (by kernel_rfl) (by kernel_rfl) (by kernel_rfl) (by kernel_rfl) (fun _ _ _ h => h) (by rfl) (v := ?v8r) ?hy8r hS ?rest8r
        case hy8r => intro w0 hSw; (try dsimp only at hSw); go_simp; try with_reducible rfl
        simp only [Act.put, List.setIfInBounds_toArray, List.set_cons_zero, List.set_cons_succ]
        refine late_take (i := 9) (some 6) rfl rfl (by kernel_rfl) (by kernel_rfl) (by kernel_rfl) (by kernel_rfl) (by kernel_rfl) (fun _ _ _ h => h) (by rfl) (v := ?v9r) ?hy9r hS ?rest9r
        case hy9r => intro w0 hSw; (try dsimp only at hSw); go_simp; try with_reducible rfl
        simp only [Act.put, List.setIfInBounds_toArray, List.set_cons_zero, List.set_cons_succ]
        refine late_done (by kernel_rfl) ?_ _
        refine NoPanic.normal ?_
        go_wp2
        go_ret3
        refine ⟨?_, G, ?_, HO.out.drew, HG.out⟩
        · rw [HD.out.1, HD.out.2, HS.out]
          unfold fedV
          rw [HWv.out, HE.out]
          rfl
        · rw [HD.out.1, HS.out]
          exact HR.out.drew
      | false =>
        have HM := hid (feed_more HFn.out (by rw [HS.out]; exact hend) hy)
        have hend2 : (decide (S.st = 11) || decide (S.err ≠ 0)) = false := hend
        have hne : S.st ≠ 11 ∧ S.err = 0 := by simpa using hend2
        rw [hend2] at HEn
        have HT := hid (take_any HR.out y (by have := HIi.out.high; omega) (by have := HIi.out.st; omega) (by have := HIi.out.part; have := HIi.out.high; omega) (by have := HIi.out.fields; omega))
        unfold byteV at HT
        clear hy hac hend hend2 hne
        go_wp2_with (first | (go_at_call 66; (with_reducible refine HEn.out.mono ?_); rintro e w1 ⟨rfl, hw1⟩; subst w1) | (go_at_call 67; (with_reducible refine HT.out.mono ?_); rintro e w2 ⟨rfl, hq⟩; have HQ := hid hq; clear hq))
        obtain ⟨G2, h1, h2, h3⟩ := HQ.out
        go_roundg (n - (i + 1) + 1)
        case measure => omega
        case rel =>
          refine ⟨i + 1, G2, by go_num, by omega, rfl, by rw [HM.out.1, HS.out]; exact h1, HO.out.trans h2 HG.out, fun k hk => ?_, HM.out.2⟩
          rcases h3 k hk with h4 | h4
          · exact HG.out k h4
          · exact .inr (Nat.le_trans HO.out.size h4)
    · obtain rfl : i = n := by omega
      have hltI : ¬ (i : Int) < (i : Int) := by omega
      have HT := hid (show l.take i = l from List.take_of_length_le (by rw [HN.out]; exact Nat.le_refl _))
      rw [HT.out] at HS HFn
      clear hlt
      go_wp2
      refine wp_region_noPanic ?_
      refine any_begin 11 (by kernel_rfl) (by kernel_rfl) ?_
      refine late_begin (fun U => U.cell? ⟨g, 3, none⟩ = some E) (fun _ => false) (show wr.drew.cell? ⟨g, 3, none⟩ = some E from k3) (fun hS => ?_)
      refine late_take (i := 0) (some 32) rfl rfl (by kernel_rfl) (by kernel_rfl) (by kernel_rfl) (by kernel_rfl) (by kernel_rfl) (fun _ _ _ h => h) (by rfl) (v := ?v0q) ?hy0q hS ?rest0q
      case hy0q => intro w0 hSw; (try dsimp only at hSw); go_simp; try with_reducible rfl
      simp only [Act.put, List.setIfInBounds_toArray, List.set_cons_zero, List.set_cons_succ]
      refine late_take (i := 1) (some 33) rfl rfl (by kernel_rfl) (by kernel_rfl) (by kernel_rfl) (by kernel_rfl) (by kernel_rfl) (fun _ _ _ h => h) (by rfl) (v := ?v1q) ?hy1q hS ?rest1q
      case hy1q => intro w0 hSw; (try dsimp only at hSw); go_simp; try with_reducible rfl
      simp only [Act.put, List.setIfInBounds_toArray, List.set_cons_zero, List.set_cons_succ]
      refine late_take (i := 2) (some 34) rfl rfl (by kernel_rfl) (by kernel_rfl) (by kernel_rfl) (by kernel_rfl) (by kernel_rfl) (fun _ _ _ h => h) (by rfl) (v := ?v2q) ?hy2q hS ?rest2q
      case hy2q => intro w0 hSw; (try dsimp only at hSw); go_simp; try with_reducible rfl
      simp only [Act.put, List.setIfInBounds_toArray, List.set_cons_zero, List.set_cons_succ]
      refine late_take (i := 4) (some 36) rfl rfl (by kernel_rfl) (by kernel_rfl) (by kernel_rfl) (by kernel_rfl) (by kernel_rfl) (fun _ _ _ h => h) (by rfl) (v := ?v4q) ?hy4q hS ?rest4q
      case hy4q => intro w0 hSw; (try dsimp only at hSw); go_simp; try with_reducible rfl
      simp only [Act.put, List.setIfInBounds_toArray, List.set_cons_zero, List.set_cons_succ]
      refine late_take (i := 5) (some 37) rfl rfl (by kernel_rfl) (by kernel_rfl) (by kernel_rfl) (by kernel_rfl) (by kernel_rfl) (fun _ _ _ h => h) (by rfl) (v := ?v5q) ?hy5q hS ?rest5q
      case hy5q => intro w0 hSw; (try dsimp only at hSw); go_simp; try with_reducible rfl
      simp only [Act.put, List.setIfInBounds_toArray, List.set_cons_zero, List.set_cons_succ]
      refine late_take (i := 6) (some 38) rfl rfl (by kernel_rfl) (by kernel_rfl) (by kernel_rfl) (by kernel_rfl) (by kernel_rfl) (fun _ _ _ h => h) (by rfl) (v := ?v6q) ?hy6q hS ?rest6q
      case hy6q => intro w0 hSw; (try dsimp only at hSw); go_simp; try with_reducible rfl
      simp only [Act.put, List.setIfInBounds_toArray, List.set_cons_zero, List.set_cons_succ]
      refine late_take (i := 7) (some 39) rfl rfl (by kernel_rfl) (by kernel_rfl) (by kernel_rfl) (by kernel_rfl) (by kernel_rfl) (fun _ _ _ h => h) (by rfl) (v := ?v7q) ?hy7q hS ?rest7q
      case hy7q => intro w0 hSw; (try dsimp only at hSw); go_simp; try with_reducible rfl
      simp only [Act.put, List.setIfInBounds_toArray, List.set_cons_zero, List.set_cons_succ]
      refine wpAnyD_one (i := 3) (by kernel_rfl) rfl (fun K hK => ?_)
      go_simp
      go_at_call 54
      refine HWh.out.mono ?_
      rintro e w2 ⟨rfl, hw2⟩
      subst w2
      refine hK _ _ ⟨fun _ => hS, ?_⟩
      clear hK K
      refine late_take (i := 8) (some 4) rfl rfl (by kernel_rfl) (by kernel_rfl) (by kernel_rfl) (by kernel_rfl) (by kernel_rfl) (fun _ _ _ h => h) (by rfl) (v := ?v8q) ?hy8q hS ?rest8q
      case hy8q => intro w0 hSw; (try dsimp only at hSw); go_simp; try with_reducible rfl
      simp only [Act.put, List.setIfInBounds_toArray, List.set_cons_zero, List.set_cons_succ]
      refine late_take (i := 9) (some 5) rfl rfl (by kernel_rfl) (by kernel_rfl) (by kernel_rfl) (by kernel_rfl) (by kernel_rfl) (fun _ _ _ h => h) (by rfl) (v := ?v9q) ?hy9q hS ?rest9q
      case hy9q => intro w0 hSw; (try dsimp only at hSw); go_simp; try with_reducible rfl
      simp only [Act.put, List.setIfInBounds_toArray, List.set_cons_zero, List.set_cons_succ]
      refine late_take (i := 10) (some 6) rfl rfl (by kernel_rfl) (by kernel_rfl) (by kernel_rfl) (by kernel_rfl) (by kernel_rfl) (fun _ _ _ h => h) (by rfl) (v := ?v10q) ?hy10q hS ?rest10q
      case hy10q => intro w0 hSw; (try dsimp only at hSw); go_simp; try with_reducible rfl
      simp only [Act.put, List.setIfInBounds_toArray, List.set_cons_zero, List.set_cons_succ]
      refine late_done (by kernel_rfl) ?_ _
      refine NoPanic.normal ?_
      go_wp2
      go_ret3
      refine ⟨?_, G, ?_, HO.out.drew, HG.out⟩
      · rw [HFn.out, HS.out]
        unfold fedV
        rw [HWv.out, HE.out]
        rfl
      · rw [HS.out]
        exact HR.out.drew
end Go.Proofs.YthakldcfpndabaaGreatDoor
