/- What a tree finds, by the program: best and behind. -/
import Derived.Test.YtdjjkcpnjocafaaDoorTPub
namespace Go.Proofs.YtdjjkcpnjocafaaDoor
open Go.RowKit Go.Maps

/-- The heap is as it was. -/
structure Same (w w' : World) : Prop where
  heap : w'.heap = w.heap
  os : w'.os = w.os
  tape : w'.tape = w.tape
  output : w'.output = w.output
theorem Same.refl (w : World) : Same w w := ⟨rfl, rfl, rfl, rfl⟩
theorem Same.trans {a b c : World} (h : Same a b) (k : Same b c) : Same a c := ⟨k.heap.trans h.heap, k.os.trans h.os, k.tape.trans h.tape, k.output.trans h.output⟩
theorem same_drew (w : World) (q : Nat) : Same w (w.drewN q) := ⟨rfl, rfl, rfl, rfl⟩
theorem same_drew1 (w : World) : Same w w.drew := ⟨rfl, rfl, rfl, rfl⟩
theorem Same.below {w w' : World} (h : Same w w') : Below w.heap.size w w' := ⟨h.os, h.tape, h.output, by rw [h.heap]; exact Nat.le_refl _, fun k _ => by rw [h.heap]⟩
theorem Same.cell {w w' : World} (h : Same w w') {a : Addr} : w'.cell? a = w.cell? a := by
  unfold World.cell?
  rw [h.heap]
theorem TreeAt.same {w w' : World} {F : Nat → Prop} {G : Gt} {M : Nat} (h : TreeAt w F G M) (hs : Same w w') : TreeAt w' F G M := h.next hs.below
theorem MxAt.same {w w' : World} (h : MxAt w) (hs : Same w w') : MxAt w' := h.next hs.below
theorem look_run {w : World} {F : Nat → Prop} {G : Gt} {M : Nat} (h : TreeAt w F G M) (k : List Ky) (x : B) (hx : x.length ≤ 140737488355328) : (Instr.lookup 63 (.map (G.mp k)) (.string (str x)) false).run Tryd.prog w = .ok (ptrN (G.nd (k ++ [.plain x]))) w := by
  have hkey := Go.WideMaps.keyOf_string_mk (k := 9) Tryd.underlying9 (s := str x) (show x.toArray.size ≤ maxLen by unfold maxLen; simp; omega)
  cases hm : G.mp k with
  | none =>
    rw [h.nomap k x hm, Maps.look_nil false lawP Tryd.underlying63 (zeroN w) hkey]
    rfl
  | some m =>
    obtain ⟨_, n, D, ho, _, hf⟩ := h.map k m hm
    obtain ⟨v, ps, h1, h2⟩ := ho.lookup lawP Tryd.underlying63 (zeroN w) (zd := .held none) (zp := []) rfl hkey
    have e : (str x).data.toList = x := by simp
    rw [e, hf x] at h2
    rw [h1, ptrR_inv h2]
    rfl
def BestOk (F : Nat → Prop) (G : Gt) (M : Nat) (r : List B) : Prop := ∀ (w : World) (left : B) (k : List Ky) (n : Nat), cutT left = r → left.length ≤ 140737488355328 → TreeAt w F G M → MxAt w → G.nd k = some n → Calls Tryd.prog 35 #[.pointer (some ⟨n, 0, none⟩), .string (str left)] w fun e w' => e = .returned (ptrN (behK G.en r k)) ∧ Same w w'
set_option maxRecDepth 20000 in
set_option maxHeartbeats 4000000 in
theorem behind_of {F : Nat → Prop} {G : Gt} {M : Nat} {r : List B} (hB : r ≠ [] → BestOk F G M r) (w : World) (left : B) (more : Bool) (k : List Ky) (hm : r = if more then cutT left else []) (hl : left.length ≤ 140737488355328) (hT : TreeAt w F G M) (hmx : MxAt w) :
    Calls Tryd.prog 51 #[ptrN (G.nd k), .string (str left), .bool more] w fun e w' => e = .returned (ptrN (behK G.en r k)) ∧ Same w w' := by
  obtain ⟨L, hL⟩ : ∃ L, str left = L := ⟨_, rfl⟩
  cases hk : G.nd k with
  | none =>
    rw [behK_none r k (hT.none_en hk), ptrN_none, hL]
    clear hB hm hL hT hmx
    go_enter Tryd.func51, Tryd.ntmps51
    go_wp2
    go_ret
    exact ⟨rfl, Same.refl _⟩
  | some n =>
    cases more with
    | true =>
      rw [if_pos rfl] at hm
      have H := hid (hB (by rw [hm]; exact cutT_ne left) w left k n hm.symm hl hT hmx hk)
      rw [hL] at H
      rw [ptrN_some, hL]
      obtain ⟨V, hV⟩ : ∃ V, ptrN (behK G.en r k) = V := ⟨_, rfl⟩
      rw [hV] at H ⊢
      clear hB hm hL hT hmx hV hk
      go_enter Tryd.func51, Tryd.ntmps51
      go_wp2_with (go_at_call 35; (with_reducible refine H.out.mono ?_); rintro e w1 ⟨rfl, hs⟩)
      go_ret
      exact ⟨rfl, hs⟩
    | false =>
      rw [if_neg (by decide)] at hm
      subst hm
      have hn := (hT.node k n hk).2.c3
      show Calls Tryd.prog 51 #[ptrN (some n), .string (str left), .bool false] w fun e w' => e = .returned (ptrN (G.en k)) ∧ Same w w'
      rw [ptrN_some, hL]
      obtain ⟨V, hV⟩ : ∃ V, ptrN (G.en k) = V := ⟨_, rfl⟩
      rw [hV] at hn ⊢
      clear hB hL hT hmx hV hk
      go_enter Tryd.func51, Tryd.ntmps51
      go_wp2
      go_ret
      exact ⟨rfl, Same.refl _⟩
set_option maxRecDepth 20000 in
set_option maxHeartbeats 8000000 in
theorem best_any {F : Nat → Prop} {G : Gt} {M : Nat} : ∀ r : List B, BestOk F G M r
  | [] => fun w left k n hc _ _ _ _ => absurd hc (cutT_ne left)
  | x0 :: r => by
    intro w left k n hc hl hT hmx hk
    have ih : r ≠ [] → BestOk F G M r := fun _ => best_any r
    have hcc := cutT_cut left
    obtain ⟨hl1, hl2⟩ := cutF_lensT left
    have HC := hid (pcutT left hl w hmx)
    obtain ⟨⟨a, b, m⟩, hab⟩ : ∃ q, cutF 47 left = q := ⟨_, rfl⟩
    rw [hab] at hcc HC hl1 hl2
    dsimp only at hcc HC hl1 hl2
    rw [hc] at hcc
    injection hcc with e1 e2
    subst e1
    have HBe := hid (fun (W : World) (k' : List Ky) (h1 : TreeAt W F G M) (h2 : MxAt W) => behind_of ih W b m k' e2 (by omega) h1 h2)
    have HBr := hid (fun (W : World) (k' : List Ky) (h1 : TreeAt W F G M) (h2 : MxAt W) => behind_of (r := []) (fun h => absurd rfl h) W [] false k' rfl (by simp) h1 h2)
    have e0 : behK G.en (x0 :: r) k = ((behK G.en r (k ++ [.plain x0])).orElse fun _ => if x0 = [] then none else behK G.en r (k ++ [.par])).orElse fun _ => G.en (k ++ [.rest]) := rfl
    have e9 : ∀ k', behK G.en [] k' = G.en k' := fun _ => rfl
    have HLk := hid (fun (W : World) (h : TreeAt W F G M) => look_run h k x0 (by omega))
    have HT := hid hT
    have HMx := hid hmx
    have HNd := hid (fun (W : World) (h : TreeAt W F G M) => (h.node k n hk).2)
    obtain ⟨L, hL⟩ : ∃ L, str left = L := ⟨_, rfl⟩
    obtain ⟨SA, hSA⟩ : ∃ S, str x0 = S := ⟨_, rfl⟩
    obtain ⟨SB, hSB⟩ : ∃ S, str b = S := ⟨_, rfl⟩
    obtain ⟨mk, hmk⟩ : ∃ mk, G.mp k = mk := ⟨_, rfl⟩
    rw [hL, hSA, hSB] at HC
    rw [hSA, hmk] at HLk
    rw [hSB] at HBe
    rw [hmk] at HNd
    rw [hL, e0]
    rw [show str ([] : B) = ⟨#[]⟩ from rfl] at HBr
    simp only [e9] at HBr
    obtain ⟨v1, hv1⟩ : ∃ v1, behK G.en r (k ++ [.plain x0]) = v1 := ⟨_, rfl⟩
    obtain ⟨v2, hv2⟩ : ∃ v2, behK G.en r (k ++ [.par]) = v2 := ⟨_, rfl⟩
    obtain ⟨v3, hv3⟩ : ∃ v3, G.en (k ++ [.rest]) = v3 := ⟨_, rfl⟩
    have H1 := hid (fun (W : World) (h1 : TreeAt W F G M) (h2 : MxAt W) => HBe.out W (k ++ [.plain x0]) h1 h2)
    have H2 := hid (fun (W : World) (h1 : TreeAt W F G M) (h2 : MxAt W) => HBe.out W (k ++ [.par]) h1 h2)
    have H3 := hid (fun (W : World) (h1 : TreeAt W F G M) (h2 : MxAt W) => HBr.out W (k ++ [.rest]) h1 h2)
    rw [hv1] at H1 ⊢
    rw [hv2] at H2 ⊢
    rw [hv3] at H3 ⊢
    obtain ⟨P1, hP1⟩ : ∃ P, ptrN (G.nd (k ++ [.plain x0])) = P := ⟨_, rfl⟩
    obtain ⟨P2, hP2⟩ : ∃ P, ptrN (G.nd (k ++ [.par])) = P := ⟨_, rfl⟩
    obtain ⟨P3, hP3⟩ : ∃ P, ptrN (G.nd (k ++ [.rest])) = P := ⟨_, rfl⟩
    have HN0 := hid (fun (W : World) (h : TreeAt W F G M) => (HNd.out W h).c0)
    have HN1 := hid (fun (W : World) (h : TreeAt W F G M) => (HNd.out W h).c1)
    have HN2 := hid (fun (W : World) (h : TreeAt W F G M) => (HNd.out W h).c2)
    rw [hP1] at H1 HLk
    rw [hP2] at H2 HN1
    rw [hP3] at H3 HN2
    have HX := hid (show SA = ⟨#[]⟩ ↔ x0 = [] from ⟨fun e => str_inj (by rw [hSA, e]), fun e => by rw [← hSA, e]⟩)
    clear hL hSA hSB hmk hv1 hv2 hv3 hP1 hP2 hP3 HBe HBr HNd ih hc hab e0 e9 e2 hT hmx hk
    cases v1 with
    | some b1 =>
      rw [ptrN_some] at H1
      have hv : ((Option.orElse (some b1) fun _ => if x0 = [] then none else v2).orElse fun _ => v3) = some b1 := rfl
      rw [hv, ptrN_some]
      clear hv
      go_enter Tryd.func35, Tryd.ntmps35
      go_wp2_with (first | (go_at_call 50; (with_reducible refine HC.out.mono ?_); rintro e w1 ⟨rfl, z1, rfl⟩; have HT1 := hid (HT.out.same (same_drew w z1)); have HM1 := hid (HMx.out.same (same_drew w z1)); have q1 := HN0.out _ HT1.out; have q2 := HLk.out _ HT1.out) | (go_at_call 51; (with_reducible refine (H1.out _ HT1.out HM1.out).mono ?_); rintro e w2 ⟨rfl, hs2⟩; have HS2 := hid hs2; have HT2 := hid (HT1.out.same hs2); have HM2 := hid (HM1.out.same hs2); have q3 := HN1.out _ HT2.out; have q4 := HN2.out _ HT2.out; clear hs2 q1 q2))
      go_ret
      exact ⟨rfl, (same_drew w z1).trans HS2.out⟩
    | none =>
      rw [ptrN_none] at H1
      by_cases hx : x0 = []
      · obtain rfl := HX.out.2 hx
        have hv : ((Option.orElse (none : Option Nat) fun _ => if x0 = [] then none else v2).orElse fun _ => v3) = v3 := by rw [if_pos hx]; rfl
        rw [hv]
        clear hv hx
        obtain ⟨V3, hV3⟩ : ∃ V, ptrN v3 = V := ⟨_, rfl⟩
        rw [hV3] at H3 ⊢
        clear hV3
        go_enter Tryd.func35, Tryd.ntmps35
        go_wp2_with (first | (go_at_call 50; (with_reducible refine HC.out.mono ?_); rintro e w1 ⟨rfl, z1, rfl⟩; have HT1 := hid (HT.out.same (same_drew w z1)); have HM1 := hid (HMx.out.same (same_drew w z1)); have q1 := HN0.out _ HT1.out; have q2 := HLk.out _ HT1.out) | (go_at_call 51; (with_reducible refine (H1.out _ HT1.out HM1.out).mono ?_); rintro e w2 ⟨rfl, hs2⟩; have HS2 := hid hs2; have HT2 := hid (HT1.out.same hs2); have HM2 := hid (HM1.out.same hs2); have q3 := HN1.out _ HT2.out; have q4 := HN2.out _ HT2.out; clear hs2 q1 q2) | (go_at_call 51; (with_reducible refine (H3.out _ HT2.out HM2.out).mono ?_); rintro e w4 ⟨rfl, hs4⟩; have HS4 := hid hs4; clear hs4))
        go_ret
        exact ⟨rfl, ((same_drew w z1).trans HS2.out).trans HS4.out⟩
      · have hne : ¬ SA = (⟨#[]⟩ : ByteArray) := fun e => hx (HX.out.1 e)
        have hne2 : (SA.toList == (⟨#[]⟩ : ByteArray).toList) = false := ne_list hne
        have hne3 : SA.toList.isEmpty = false := ne_empty hne
        have hne4 : (SA.toList == []) = false := by have h := hne2; rw [ByteArray.toList_eq, ByteArray.toList_eq] at h; rw [ByteArray.toList_eq]; exact h
        have hv : ((Option.orElse (none : Option Nat) fun _ => if x0 = [] then none else v2).orElse fun _ => v3) = v2.orElse fun _ => v3 := by rw [if_neg hx]; rfl
        rw [hv]
        clear hv hx
        cases v2 with
        | some b2 =>
          rw [ptrN_some] at H2
          have hv : ((some b2).orElse fun _ => v3) = some b2 := rfl
          rw [hv, ptrN_some]
          clear hv
          go_enter Tryd.func35, Tryd.ntmps35
          go_wp2_with (first | (go_at_call 50; (with_reducible refine HC.out.mono ?_); rintro e w1 ⟨rfl, z1, rfl⟩; have HT1 := hid (HT.out.same (same_drew w z1)); have HM1 := hid (HMx.out.same (same_drew w z1)); have q1 := HN0.out _ HT1.out; have q2 := HLk.out _ HT1.out) | (go_at_call 51; (with_reducible refine (H1.out _ HT1.out HM1.out).mono ?_); rintro e w2 ⟨rfl, hs2⟩; have HS2 := hid hs2; have HT2 := hid (HT1.out.same hs2); have HM2 := hid (HM1.out.same hs2); have q3 := HN1.out _ HT2.out; have q4 := HN2.out _ HT2.out; clear hs2 q1 q2) | (go_at_call 51; (with_reducible refine (H2.out _ HT2.out HM2.out).mono ?_); rintro e w3 ⟨rfl, hs3⟩; have HS3 := hid hs3; have HT3 := hid (HT2.out.same hs3); have HM3 := hid (HM2.out.same hs3); have q5 := HN2.out _ HT3.out; clear hs3 q3 q4))
          go_ret
          exact ⟨rfl, ((same_drew w z1).trans HS2.out).trans HS3.out⟩
        | none =>
          rw [ptrN_none] at H2
          have hv : ((none : Option Nat).orElse fun _ => v3) = v3 := rfl
          rw [hv]
          clear hv
          obtain ⟨V3, hV3⟩ : ∃ V, ptrN v3 = V := ⟨_, rfl⟩
          rw [hV3] at H3 ⊢
          clear hV3
          go_enter Tryd.func35, Tryd.ntmps35
          go_wp2_with (first | (go_at_call 50; (with_reducible refine HC.out.mono ?_); rintro e w1 ⟨rfl, z1, rfl⟩; have HT1 := hid (HT.out.same (same_drew w z1)); have HM1 := hid (HMx.out.same (same_drew w z1)); have q1 := HN0.out _ HT1.out; have q2 := HLk.out _ HT1.out) | (first | (go_at_call 51; (with_reducible refine (H1.out _ HT1.out HM1.out).mono ?_); rintro e w2 ⟨rfl, hs2⟩; have HS2 := hid hs2; have HT2 := hid (HT1.out.same hs2); have HM2 := hid (HM1.out.same hs2); have q3 := HN1.out _ HT2.out; have q4 := HN2.out _ HT2.out; clear hs2 q1 q2) | (go_at_call 51; (with_reducible refine (H2.out _ HT2.out HM2.out).mono ?_); rintro e w3 ⟨rfl, hs3⟩; have HS3 := hid hs3; have HT3 := hid (HT2.out.same hs3); have HM3 := hid (HM2.out.same hs3); have q5 := HN2.out _ HT3.out; clear hs3 q3 q4)) | (go_at_call 51; (with_reducible refine (H3.out _ HT3.out HM3.out).mono ?_); rintro e w4 ⟨rfl, hs4⟩; have HS4 := hid hs4; clear hs4))
          go_ret
          exact ⟨rfl, (((same_drew w z1).trans HS2.out).trans HS3.out).trans HS4.out⟩
end Go.Proofs.YtdjjkcpnjocafaaDoor
