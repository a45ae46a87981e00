/- Find of the document. -/
import Derived.Test.YtdjjkcpnjocafaaDoorTDoc
namespace Go.Proofs.YtdjjkcpnjocafaaDoor
open Go.RowKit

/-- The best one among the first i. -/
def BestI (P : List (B × Int)) (X : List B) (i : Nat) : Option Nat → Prop
  | none => ∀ q ∈ P.take i, fitsT (cutT q.1.tail) X = none
  | some b => ∃ p, P[b]? = some p ∧ b < i ∧ (fitsT (cutT p.1.tail) X).isSome = true ∧ ∀ q ∈ P.take i, (fitsT (cutT q.1.tail) X).isSome = true → q = p ∨ betterT (cutT p.1.tail) (cutT q.1.tail) = true
theorem mem_take_succ {P : List (B × Int)} {i : Nat} {x q : B × Int} (hx : P[i]? = some x) (h : q ∈ P.take (i + 1)) : q ∈ P.take i ∨ q = x := by
  rw [List.take_add_one, hx] at h
  rcases List.mem_append.1 h with h | h
  · exact .inl h
  · exact .inr (by simpa using h)
theorem best_no {P : List (B × Int)} {X : List B} {i : Nat} {x : B × Int} {o : Option Nat} (h : BestI P X i o) (hx : P[i]? = some x) (hf : fitsT (cutT x.1.tail) X = none) : BestI P X (i + 1) o := by
  cases o with
  | none =>
    intro q hq
    rcases mem_take_succ hx hq with h1 | h1
    · exact h q h1
    · rw [h1]; exact hf
  | some b =>
    obtain ⟨p, h1, h2, h3, h4⟩ := h
    refine ⟨p, h1, by omega, h3, fun q hq hfq => ?_⟩
    rcases mem_take_succ hx hq with h5 | h5
    · exact h4 q h5 hfq
    · rw [h5, hf] at hfq; cases hfq
theorem best_first {P : List (B × Int)} {X : List B} {i : Nat} {x : B × Int} (h : BestI P X i none) (hx : P[i]? = some x) (hf : (fitsT (cutT x.1.tail) X).isSome = true) : BestI P X (i + 1) (some i) := by
  refine ⟨x, hx, by omega, hf, fun q hq hfq => ?_⟩
  rcases mem_take_succ hx hq with h5 | h5
  · rw [h q h5] at hfq; cases hfq
  · exact .inl h5
theorem best_more {P : List (B × Int)} {X : List B} {i b : Nat} {x p : B × Int} (h : BestI P X i (some b)) (hp : P[b]? = some p) (hx : P[i]? = some x) (hf : (fitsT (cutT x.1.tail) X).isSome = true) (hb : betterT (cutT x.1.tail) (cutT p.1.tail) = true) : BestI P X (i + 1) (some i) := by
  obtain ⟨p', h1, h2, h3, h4⟩ := h
  rw [hp] at h1
  injection h1 with h1
  subst h1
  refine ⟨x, hx, by omega, hf, fun q hq hfq => ?_⟩
  rcases mem_take_succ hx hq with h5 | h5
  · rcases h4 q h5 hfq with h6 | h6
    · rw [h6]; exact .inr hb
    · exact .inr (better_trans hb h6)
  · exact .inl h5
theorem best_less {P : List (B × Int)} {X : List B} (hfine : ∀ x ∈ P, checkP x.1 = true) (hap : ∀ (i j : Nat) (p q : B × Int), P[i]? = some p → P[j]? = some q → keysP p.1 = keysP q.1 → i = j) {i b : Nat} {x p : B × Int} (h : BestI P X i (some b)) (hp : P[b]? = some p) (hx : P[i]? = some x) (hf : (fitsT (cutT x.1.tail) X).isSome = true) (hb : betterT (cutT x.1.tail) (cutT p.1.tail) = false) : BestI P X (i + 1) (some b) := by
  obtain ⟨p', h1, h2, h3, h4⟩ := h
  rw [hp] at h1
  injection h1 with h1
  subst h1
  refine ⟨p, hp, by omega, h3, fun q hq hfq => ?_⟩
  rcases mem_take_succ hx hq with h5 | h5
  · exact h4 q h5 hfq
  · subst h5
    obtain ⟨t1, e1, _, _, r1⟩ := check_parts (hfine q (List.mem_of_getElem? hx))
    obtain ⟨t2, e2, _, _, r2⟩ := check_parts (hfine p (List.mem_of_getElem? hp))
    have e1' : cutT q.1.tail = cutT t1 := by rw [e1]; rfl
    have e2' : cutT p.1.tail = cutT t2 := by rw [e2]; rfl
    rcases better_total (cutT q.1.tail) (cutT p.1.tail) X (by rw [e1']; exact r1) (by rw [e2']; exact r2) hf h3 with h6 | h6 | h6
    · have h7 := hap i b q p hx hp ((alike_keys _ _).1 h6)
      omega
    · rw [h6] at hb; cases hb
    · exact .inr h6
/-- Two patterns' texts that are read. -/
structure TwoP (U : World) (g o i j : Nat) (X Y : ByteArray) : Prop where
  a0 : U.cell? ⟨g, o + i * 2, none⟩ = some (.string X)
  a1 : U.cell? ⟨g, o + j * 2, none⟩ = some (.string Y)
/-- What the document's Find answers. -/
def RFindAns (path : B) (P : List (B × Int)) (w : World) (e : Ending) (w' : World) : Prop := Below w.heap.size w w' ∧
  ((begB 47 path = false ∧ e = .returned (.tuple #[.int .i64 0, .slice none 0 0, .int .i64 3])) ∨
   (begB 47 path = true ∧ (∀ p ∈ P, fitsT (cutT p.1.tail) (cutT path.tail) = none) ∧ e = .returned (.tuple #[.int .i64 0, .slice none 0 0, .int .i64 8])) ∨
   (begB 47 path = true ∧ ∃ p F q d, p ∈ P ∧ fitsT (cutT p.1.tail) (cutT path.tail) = some F ∧ (∀ r ∈ P, (fitsT (cutT r.1.tail) (cutT path.tail)).isSome = true → r = p ∨ betterT (cutT p.1.tail) (cutT r.1.tail) = true) ∧ e = .returned (.tuple #[.int .i64 p.2, .slice q F.length d, .int .i64 0]) ∧ OwnF w' w.heap.size (.slice q F.length d) F))
theorem rfits_pat {p : B} (hc : checkP p = true) (X : List B) (n c : Nat) (hn : X.length = n) (hnn : n ≤ 4398046511104) (hnc : n ≤ c) (hj : (joinT X).length ≤ 4398046511104) (py : Option Addr) (w : World) (hT : TxAt w py X) : Calls Tryd.prog 37 #[.string (str p), .slice py n c] w fun e w' => FitAns (fitsT (cutT p.tail) X) w e w' := by
  obtain ⟨t, rfl, _, h2, _⟩ := check_parts hc
  exact rfits_any t (by simp at h2; omega) X py n c hn hnn hnc hj w hT
theorem rbetter_pat {pa pb : B} (ha : checkP pa = true) (hb : checkP pb = true) (w : World) : Calls Tryd.prog 38 #[.string (str pa), .string (str pb)] w fun e w' => e = .returned (.bool (betterT (cutT pa.tail) (cutT pb.tail))) ∧ Below w.heap.size w w' := by
  obtain ⟨ta, rfl, _, h1, _⟩ := check_parts ha
  obtain ⟨tb, rfl, _, h2, _⟩ := check_parts hb
  simp at h1 h2
  exact rbetter_any ta tb (by omega) (by omega) w
def bestV : Option Nat → Value
  | none => .int .i64 (-1)
  | some b => .int .i64 (b : Int)
set_option maxRecDepth 20000 in
set_option maxHeartbeats 32000000 in
theorem rfind_any (P : List (B × Int)) (hfine : ∀ x ∈ P, checkP x.1 = true) (hap : ∀ (i j : Nat) (p q : B × Int), P[i]? = some p → P[j]? = some q → keysP p.1 = keysP q.1 → i = j) (path : B) (hp : path.length ≤ 4294967280) (pr : Option Addr) (n c base : Nat) (hn : P.length = n) (hnn : n ≤ 1000000) (w : World) (hR : OwnP w base (.slice pr n c) P) :
    Calls Tryd.prog 14 #[.slice pr n c, .string (str path)] w fun e w' => RFindAns path P w e w' := by
  cases hb : begB 47 path with
  | false =>
    have HSp := hid (fun W : World => rsplit_none (p := path) (by omega) hb W)
    have HFin := hid (show RFindAns path P w (.returned (.tuple #[.int .i64 0, .slice none 0 0, .int .i64 3])) w from ⟨Below.refl _ _, .inl ⟨hb, rfl⟩⟩)
    obtain ⟨Y, hY⟩ : ∃ S, str path = S := ⟨_, rfl⟩
    rw [hY] at HSp ⊢
    clear hY hb hR
    go_enter Tryd.func14, Tryd.ntmps14
    go_wp2_with (go_at_call 30; (with_reducible refine (HSp.out _).mono ?_); rintro e w1 ⟨rfl, hw1⟩; subst w1)
    go_ret3
    exact HFin.out
  | true =>
    obtain ⟨t, rfl⟩ := beg_cons hb
    have htl : t.length ≤ 4294967280 := by simp at hp; omega
    have HSp := hid (fun W : World => rsplit_yes t (by omega) W)
    have hcl := cutT_len t
    have HFn := hid (show ∀ W, Below w.heap.size w W → (∀ p ∈ P, fitsT (cutT p.1.tail) (cutT t) = none) → RFindAns (47 :: t) P w (.returned (.tuple #[.int .i64 0, .slice none 0 0, .int .i64 8])) W from fun W hbw hno => ⟨hbw, .inr (.inl ⟨hb, hno, rfl⟩)⟩)
    have HFy := hid (show ∀ W (p : B × Int) F q d L, F.length = L → Below w.heap.size w W → p ∈ P → fitsT (cutT p.1.tail) (cutT t) = some F → (∀ r ∈ P, (fitsT (cutT r.1.tail) (cutT t)).isSome = true → r = p ∨ betterT (cutT p.1.tail) (cutT r.1.tail) = true) → OwnF W w.heap.size (.slice q L d) F → RFindAns (47 :: t) P w (.returned (.tuple #[.int .i64 p.2, .slice q L d, .int .i64 0])) W from fun W p F q d L hL hbw hpm hf hbt ho => by subst hL; exact ⟨hbw, .inr (.inr ⟨hb, p, F, q, d, hpm, hf, hbt, rfl, ho⟩)⟩)
    have hjl : (joinT (cutT t)).length ≤ 4398046511104 := by rw [joinT_cut]; omega
    obtain ⟨X, hX⟩ : ∃ X, cutT t = X := ⟨_, rfl⟩
    rw [hX] at HSp hcl HFn HFy hjl
    obtain ⟨m, hm⟩ : ∃ m, X.length = m := ⟨_, rfl⟩
    have HM := hid hm
    rw [hm] at HSp hcl
    have hm9 : m ≤ 4398046511104 := by omega
    have HFt := hid (fun (x : B) (hx : checkP x = true) (py : Option Addr) (c : Nat) (hc : m ≤ c) (W : World) (h : TxAt W py X) => rfits_pat hx X m c HM.out hm9 hc hjl py W h)
    have HFi := hid hfine
    have HAp := hid hap
    have HN := hid hn
    have HR := hid hR
    obtain ⟨Y, hY⟩ : ∃ S, str (47 :: t) = S := ⟨_, rfl⟩
    rw [hY] at HSp ⊢
    clear hY hb hR hX hm hp htl hfine hap hn hcl
    go_enter Tryd.func14, Tryd.ntmps14
    go_wp2_with (go_at_call 30; (with_reducible refine (HSp.out _).mono ?_); rintro e w1 ⟨p1, c1, rfl, ho, hb1⟩; have HB1 := hid hb1; have HCp := hid ho.cap; have HTx := hid ho.tx; have HR1 := hid (HR.out.keep hb1); clear hb1 ho)
    go_loopg [9, 10] (n + 1) (fun gk s9 s10 wr => ∃ (i : Nat) (bo : Option Nat), i ≤ n ∧ gk = n - i + 1 ∧ s10 = .int .i64 (i : Int) ∧ s9 = bestV bo ∧ BestI P X i bo ∧ Below w1.heap.size w1 wr)
    case atStart => exact ⟨0, none, by omega, rfl, rfl, rfl, (fun q hq => by simp at hq), Below.refl _ _⟩
    case round =>
      obtain ⟨i, bo, hi, rfl, rfl, rfl, hbi, hb⟩ := hrel
      have HBi := hid hbi
      have HB := hid hb
      clear hbi hb
      by_cases hin : i < n
      · obtain ⟨x, hx⟩ : ∃ x, P[i]? = some x := ⟨_, List.getElem?_eq_getElem (by rw [HN.out]; exact hin)⟩
        have HX := hid hx
        have HPt := hid (show ∀ W, Below w1.heap.size w1 W → PtAt W pr P from fun W hbw => OwnP.pt (HR1.out.keep hbw))
        have hcx := HFi.out x (List.mem_of_getElem? hx)
        have HFx := hid (fun (W : World) (h : TxAt W p1 X) => HFt.out x.1 hcx p1 c1 HCp.out W h)
        have HTr := hid (HTx.out.next HB.out)
        obtain ⟨g, o, hpr, q1, q2⟩ := (HPt.out wr HB.out) i x hx
        obtain ⟨Sx, hSx⟩ : ∃ S, str x.1 = S := ⟨_, rfl⟩
        have HSx := hid hSx
        rw [hSx] at q1 HFx
        cases hf : fitsT (cutT x.1.tail) X with
        | none =>
          rw [hf] at HFx
          have HBn := hid (best_no HBi.out hx hf)
          subst hpr
          obtain ⟨bv, hbv⟩ : ∃ v, bestV bo = v := ⟨_, rfl⟩
          have HBv := hid hbv
          rw [hbv]
          clear hx hSx hf hbv
          go_wp2_with (go_at_call 37; (with_reducible refine (HFx.out _ HTr.out).mono ?_); rintro e w4 ⟨rfl, hb4⟩; have HB4 := hid (HB.out.trans (hb4.mono HB.out.size)); clear hb4)
          go_quiet (fail)
          go_wp2
          go_roundg (n - (i + 1) + 1)
          case measure => omega
          case rel => exact ⟨i + 1, bo, by omega, rfl, by push_cast; go_num, HBv.out.symm, HBn.out, HB4.out.trans ((below_drewT _ _).mono HB4.out.size)⟩
        | some F =>
          rw [hf] at HFx
          have hfs : (fitsT (cutT x.1.tail) X).isSome = true := by rw [hf]; rfl
          have HFx2 := hid (fun (W : World) (h : TxAt W p1 X) => (HFx.out W h).mono (R' := fun e w' => (∃ v, e = .returned (.tuple #[.bool true, v])) ∧ Below W.heap.size W w') (by rintro e w' ⟨q, d, h3, _, h5⟩; exact ⟨⟨_, h3⟩, h5⟩))
          cases bo with
          | none =>
            have HBn := hid (best_first HBi.out hx hfs)
            subst hpr
            unfold bestV
            clear hx hSx hf hfs HFx
            go_wp2_with (go_at_call 37; (with_reducible refine (HFx2.out _ HTr.out).mono ?_); rintro e w4 ⟨⟨v4, rfl⟩, hb4⟩; have HB4 := hid (HB.out.trans (hb4.mono HB.out.size)); clear hb4)
            go_quiet (fail)
            go_wp2
            go_roundg (n - (i + 1) + 1)
            case measure => omega
            case rel => exact ⟨i + 1, some i, by omega, rfl, by push_cast; go_num, rfl, HBn.out, HB4.out.trans ((below_drewT _ _).mono HB4.out.size)⟩
          | some b =>
            obtain ⟨p, hpb, hbl⟩ : ∃ p, P[b]? = some p ∧ b < i := by obtain ⟨p, h1, h2, _⟩ := HBi.out; exact ⟨p, h1, h2⟩
            have hcp := HFi.out p (List.mem_of_getElem? hpb)
            have HBt := hid (fun W : World => rbetter_pat hcx hcp W)
            have HMo := hid (fun h => best_more HBi.out hpb hx hfs h)
            have HLs := hid (fun h => best_less HFi.out HAp.out HBi.out hpb hx hfs h)
            obtain ⟨g', o', hpr', q3, _⟩ := (HPt.out wr HB.out) b p hpb
            subst hpr
            injection hpr' with hpr'; injection hpr' with e1 e2; subst e1 e2
            obtain ⟨Sp, hSp⟩ : ∃ S, str p.1 = S := ⟨_, rfl⟩
            rw [hSp] at q3
            rw [hSx, hSp] at HBt
            have HQ1 := hid q1
            have HQ3 := hid q3
            obtain ⟨bb, hbb⟩ : ∃ x9, betterT (cutT x.1.tail) (cutT p.1.tail) = x9 := ⟨_, rfl⟩
            rw [hbb] at HBt HMo HLs
            have hnb9 : ¬ (b : Int) < 0 := by omega
            have hdb : decide ((b : Int) < 0) = false := decide_eq_false hnb9
            have hbn : b < n := by omega
            unfold bestV
            clear hx hSx hf hfs HFx hpb hcp hSp hbb
            cases bb with
            | true =>
              go_wp2_with (go_at_call 37; (with_reducible refine (HFx2.out _ HTr.out).mono ?_); rintro e w4 ⟨⟨v4, rfl⟩, hb4⟩; have HB4 := hid (HB.out.trans (hb4.mono HB.out.size)); have HQ4 := hid (cell_keep hb4 HQ1.out); have HQ5 := hid (cell_keep hb4 HQ3.out); clear hb4)
              have hS0t : TwoP w4.drew g o i b Sx Sp := ⟨HQ4.out, HQ5.out⟩
              refine wp_region_noPanic ?_
              refine any_begin 18 (by kernel_rfl) (by kernel_rfl) ?_
              refine late_begin (fun U => TwoP U g o i b Sx Sp) (fun _ => false) hS0t (fun hS => ?_)
              refine late_take (i := 0) (some 38) rfl rfl (by kernel_rfl) (by kernel_rfl) (by kernel_rfl) (by kernel_rfl) (by kernel_rfl) (fun _ _ _ h => h) (by rfl) (v := ?v0t) ?hy0t hS ?rest0t
              case hy0t => intro w0 hSw; obtain ⟨a0, a1⟩ := hSw; go_simp; try with_reducible rfl
              simp only [Act.put, List.setIfInBounds_toArray, List.set_cons_zero, List.set_cons_succ]
              refine late_take (i := 1) (some 39) rfl rfl (by kernel_rfl) (by kernel_rfl) (by kernel_rfl) (by kernel_rfl) (by kernel_rfl) (fun _ _ _ h => h) (by rfl) (v := ?v1t) ?hy1t hS ?rest1t
              case hy1t => intro w0 hSw; obtain ⟨a0, a1⟩ := hSw; go_simp; try with_reducible rfl
              simp only [Act.put, List.setIfInBounds_toArray, List.set_cons_zero, List.set_cons_succ]
              refine late_take (i := 2) (some 40) rfl rfl (by kernel_rfl) (by kernel_rfl) (by kernel_rfl) (by kernel_rfl) (by kernel_rfl) (fun _ _ _ h => h) (by rfl) (v := ?v2t) ?hy2t hS ?rest2t
              case hy2t => intro w0 hSw; obtain ⟨a0, a1⟩ := hSw; go_simp; try with_reducible rfl
              simp only [Act.put, List.setIfInBounds_toArray, List.set_cons_zero, List.set_cons_succ]
              refine late_take (i := 3) (some 41) rfl rfl (by kernel_rfl) (by kernel_rfl) (by kernel_rfl) (by kernel_rfl) (by kernel_rfl) (fun _ _ _ h => h) (by rfl) (v := .bool false) ?hy3t hS ?rest3t
              case hy3t => intro w0 hSw; obtain ⟨a0, a1⟩ := hSw; go_simp; (try rw [hdb]); (try exact hnb9); try with_reducible rfl
              simp only [Act.put, List.setIfInBounds_toArray, List.set_cons_zero, List.set_cons_succ]
              refine late_take (i := 4) (some 42) rfl rfl (by kernel_rfl) (by kernel_rfl) (by kernel_rfl) (by kernel_rfl) (by kernel_rfl) (fun _ _ _ h => h) (by rfl) (v := ?v4t) ?hy4t hS ?rest4t
              case hy4t => intro w0 hSw; obtain ⟨a0, a1⟩ := hSw; go_simp; try with_reducible rfl
              simp only [Act.put, List.setIfInBounds_toArray, List.set_cons_zero, List.set_cons_succ]
              refine late_take (i := 5) (some 43) rfl rfl (by kernel_rfl) (by kernel_rfl) (by kernel_rfl) (by kernel_rfl) (by kernel_rfl) (fun _ _ _ h => h) (by rfl) (v := ?v5t) ?hy5t hS ?rest5t
              case hy5t => intro w0 hSw; obtain ⟨a0, a1⟩ := hSw; go_simp; try with_reducible rfl
              simp only [Act.put, List.setIfInBounds_toArray, List.set_cons_zero, List.set_cons_succ]
              refine late_take (i := 6) (some 44) rfl rfl (by kernel_rfl) (by kernel_rfl) (by kernel_rfl) (by kernel_rfl) (by kernel_rfl) (fun _ _ _ h => h) (by rfl) (v := ?v6t) ?hy6t hS ?rest6t
              case hy6t => intro w0 hSw; obtain ⟨a0, a1⟩ := hSw; go_simp; try with_reducible rfl
              simp only [Act.put, List.setIfInBounds_toArray, List.set_cons_zero, List.set_cons_succ]
              refine late_take (i := 7) (some 45) rfl rfl (by kernel_rfl) (by kernel_rfl) (by kernel_rfl) (by kernel_rfl) (by kernel_rfl) (fun _ _ _ h => h) (by rfl) (v := ?v7t) ?hy7t hS ?rest7t
              case hy7t => intro w0 hSw; obtain ⟨a0, a1⟩ := hSw; go_simp; try with_reducible rfl
              simp only [Act.put, List.setIfInBounds_toArray, List.set_cons_zero, List.set_cons_succ]
              refine late_take (i := 8) (some 46) rfl rfl (by kernel_rfl) (by kernel_rfl) (by kernel_rfl) (by kernel_rfl) (by kernel_rfl) (fun _ _ _ h => h) (by rfl) (v := ?v8t) ?hy8t hS ?rest8t
              case hy8t => intro w0 hSw; obtain ⟨a0, a1⟩ := hSw; go_simp; try with_reducible rfl
              simp only [Act.put, List.setIfInBounds_toArray, List.set_cons_zero, List.set_cons_succ]
              refine late_take (i := 9) (some 47) rfl rfl (by kernel_rfl) (by kernel_rfl) (by kernel_rfl) (by kernel_rfl) (by kernel_rfl) (fun _ _ _ h => h) (by rfl) (v := ?v9t) ?hy9t hS ?rest9t
              case hy9t => intro w0 hSw; obtain ⟨a0, a1⟩ := hSw; go_simp; try with_reducible rfl
              simp only [Act.put, List.setIfInBounds_toArray, List.set_cons_zero, List.set_cons_succ]
              refine late_take (i := 10) (some 48) rfl rfl (by kernel_rfl) (by kernel_rfl) (by kernel_rfl) (by kernel_rfl) (by kernel_rfl) (fun _ _ _ h => h) (by rfl) (v := ?v10t) ?hy10t hS ?rest10t
              case hy10t => intro w0 hSw; obtain ⟨a0, a1⟩ := hSw; go_simp; try with_reducible rfl
              simp only [Act.put, List.setIfInBounds_toArray, List.set_cons_zero, List.set_cons_succ]
              refine late_take (i := 11) (some 49) rfl rfl (by kernel_rfl) (by kernel_rfl) (by kernel_rfl) (by kernel_rfl) (by kernel_rfl) (fun _ _ _ h => h) (by rfl) (v := ?v11t) ?hy11t hS ?rest11t
              case hy11t => intro w0 hSw; obtain ⟨a0, a1⟩ := hSw; go_simp; try with_reducible rfl
              simp only [Act.put, List.setIfInBounds_toArray, List.set_cons_zero, List.set_cons_succ]
              refine late_take (i := 12) (some 50) rfl rfl (by kernel_rfl) (by kernel_rfl) (by kernel_rfl) (by kernel_rfl) (by kernel_rfl) (fun _ _ _ h => h) (by rfl) (v := ?v12t) ?hy12t hS ?rest12t
              case hy12t => intro w0 hSw; obtain ⟨a0, a1⟩ := hSw; go_simp; try with_reducible rfl
              simp only [Act.put, List.setIfInBounds_toArray, List.set_cons_zero, List.set_cons_succ]
              refine late_take (i := 13) (some 51) rfl rfl (by kernel_rfl) (by kernel_rfl) (by kernel_rfl) (by kernel_rfl) (by kernel_rfl) (fun _ _ _ h => h) (by rfl) (v := ?v13t) ?hy13t hS ?rest13t
              case hy13t => intro w0 hSw; obtain ⟨a0, a1⟩ := hSw; go_simp; try with_reducible rfl
              simp only [Act.put, List.setIfInBounds_toArray, List.set_cons_zero, List.set_cons_succ]
              refine late_take (i := 14) (some 52) rfl rfl (by kernel_rfl) (by kernel_rfl) (by kernel_rfl) (by kernel_rfl) (by kernel_rfl) (fun _ _ _ h => h) (by rfl) (v := ?v14t) ?hy14t hS ?rest14t
              case hy14t => intro w0 hSw; obtain ⟨a0, a1⟩ := hSw; go_simp; try with_reducible rfl
              simp only [Act.put, List.setIfInBounds_toArray, List.set_cons_zero, List.set_cons_succ]
              refine wpAnyD_one (i := 15) (by kernel_rfl) rfl (fun K hK => ?_)
              go_simp
              go_at_call 38
              (with_reducible refine (HBt.out _).mono ?_)
              rintro e w5 ⟨rfl, hb5⟩
              have HB5 := hid (below_out (same_drew1 w4).below hb5)
              have hS1t : TwoP w5 g o i b Sx Sp := ⟨cell_keep HB5.out hS0t.a0, cell_keep HB5.out hS0t.a1⟩
              clear hb5
              refine hK _ _ ⟨fun _ => hS1t, ?_⟩
              clear hK K
              refine late_take (i := 16) (some 54) rfl rfl (by kernel_rfl) (by kernel_rfl) (by kernel_rfl) (by kernel_rfl) (by kernel_rfl) (fun _ _ _ h => h) (by rfl) (v := ?v16t) ?hy16t hS1t ?rest16t
              case hy16t => intro w0 hSw; obtain ⟨a0, a1⟩ := hSw; go_simp; try with_reducible rfl
              simp only [Act.put, List.setIfInBounds_toArray, List.set_cons_zero, List.set_cons_succ]
              refine late_take (i := 17) (some 55) rfl rfl (by kernel_rfl) (by kernel_rfl) (by kernel_rfl) (by kernel_rfl) (by kernel_rfl) (fun _ _ _ h => h) (by rfl) (v := ?v17t) ?hy17t hS1t ?rest17t
              case hy17t => intro w0 hSw; obtain ⟨a0, a1⟩ := hSw; go_simp; try with_reducible rfl
              simp only [Act.put, List.setIfInBounds_toArray, List.set_cons_zero, List.set_cons_succ]
              refine late_done (by kernel_rfl) ?_ _
              refine NoPanic.normal ?_
              go_wp2
              go_roundg (n - (i + 1) + 1)
              case measure => omega
              case rel => exact ⟨i + 1, some i, by omega, rfl, by push_cast; go_num, rfl, HMo.out (by first | rfl | trivial), HB4.out.trans (HB5.out.mono HB4.out.size)⟩
            | false =>
              go_wp2_with (go_at_call 37; (with_reducible refine (HFx2.out _ HTr.out).mono ?_); rintro e w4 ⟨⟨v4, rfl⟩, hb4⟩; have HB4 := hid (HB.out.trans (hb4.mono HB.out.size)); have HQ4 := hid (cell_keep hb4 HQ1.out); have HQ5 := hid (cell_keep hb4 HQ3.out); clear hb4)
              have hS0f : TwoP w4.drew g o i b Sx Sp := ⟨HQ4.out, HQ5.out⟩
              refine wp_region_noPanic ?_
              refine any_begin 18 (by kernel_rfl) (by kernel_rfl) ?_
              refine late_begin (fun U => TwoP U g o i b Sx Sp) (fun _ => false) hS0f (fun hS => ?_)
              refine late_take (i := 0) (some 38) rfl rfl (by kernel_rfl) (by kernel_rfl) (by kernel_rfl) (by kernel_rfl) (by kernel_rfl) (fun _ _ _ h => h) (by rfl) (v := ?v0f) ?hy0f hS ?rest0f
              case hy0f => intro w0 hSw; obtain ⟨a0, a1⟩ := hSw; go_simp; try with_reducible rfl
              simp only [Act.put, List.setIfInBounds_toArray, List.set_cons_zero, List.set_cons_succ]
              refine late_take (i := 1) (some 39) rfl rfl (by kernel_rfl) (by kernel_rfl) (by kernel_rfl) (by kernel_rfl) (by kernel_rfl) (fun _ _ _ h => h) (by rfl) (v := ?v1f) ?hy1f hS ?rest1f
              case hy1f => intro w0 hSw; obtain ⟨a0, a1⟩ := hSw; go_simp; try with_reducible rfl
              simp only [Act.put, List.setIfInBounds_toArray, List.set_cons_zero, List.set_cons_succ]
              refine late_take (i := 2) (some 40) rfl rfl (by kernel_rfl) (by kernel_rfl) (by kernel_rfl) (by kernel_rfl) (by kernel_rfl) (fun _ _ _ h => h) (by rfl) (v := ?v2f) ?hy2f hS ?rest2f
              case hy2f => intro w0 hSw; obtain ⟨a0, a1⟩ := hSw; go_simp; try with_reducible rfl
              simp only [Act.put, List.setIfInBounds_toArray, List.set_cons_zero, List.set_cons_succ]
              refine late_take (i := 3) (some 41) rfl rfl (by kernel_rfl) (by kernel_rfl) (by kernel_rfl) (by kernel_rfl) (by kernel_rfl) (fun _ _ _ h => h) (by rfl) (v := .bool false) ?hy3f hS ?rest3f
              case hy3f => intro w0 hSw; obtain ⟨a0, a1⟩ := hSw; go_simp; (try rw [hdb]); (try exact hnb9); try with_reducible rfl
              simp only [Act.put, List.setIfInBounds_toArray, List.set_cons_zero, List.set_cons_succ]
              refine late_take (i := 4) (some 42) rfl rfl (by kernel_rfl) (by kernel_rfl) (by kernel_rfl) (by kernel_rfl) (by kernel_rfl) (fun _ _ _ h => h) (by rfl) (v := ?v4f) ?hy4f hS ?rest4f
              case hy4f => intro w0 hSw; obtain ⟨a0, a1⟩ := hSw; go_simp; try with_reducible rfl
              simp only [Act.put, List.setIfInBounds_toArray, List.set_cons_zero, List.set_cons_succ]
              refine late_take (i := 5) (some 43) rfl rfl (by kernel_rfl) (by kernel_rfl) (by kernel_rfl) (by kernel_rfl) (by kernel_rfl) (fun _ _ _ h => h) (by rfl) (v := ?v5f) ?hy5f hS ?rest5f
              case hy5f => intro w0 hSw; obtain ⟨a0, a1⟩ := hSw; go_simp; try with_reducible rfl
              simp only [Act.put, List.setIfInBounds_toArray, List.set_cons_zero, List.set_cons_succ]
              refine late_take (i := 6) (some 44) rfl rfl (by kernel_rfl) (by kernel_rfl) (by kernel_rfl) (by kernel_rfl) (by kernel_rfl) (fun _ _ _ h => h) (by rfl) (v := ?v6f) ?hy6f hS ?rest6f
              case hy6f => intro w0 hSw; obtain ⟨a0, a1⟩ := hSw; go_simp; try with_reducible rfl
              simp only [Act.put, List.setIfInBounds_toArray, List.set_cons_zero, List.set_cons_succ]
              refine late_take (i := 7) (some 45) rfl rfl (by kernel_rfl) (by kernel_rfl) (by kernel_rfl) (by kernel_rfl) (by kernel_rfl) (fun _ _ _ h => h) (by rfl) (v := ?v7f) ?hy7f hS ?rest7f
              case hy7f => intro w0 hSw; obtain ⟨a0, a1⟩ := hSw; go_simp; try with_reducible rfl
              simp only [Act.put, List.setIfInBounds_toArray, List.set_cons_zero, List.set_cons_succ]
              refine late_take (i := 8) (some 46) rfl rfl (by kernel_rfl) (by kernel_rfl) (by kernel_rfl) (by kernel_rfl) (by kernel_rfl) (fun _ _ _ h => h) (by rfl) (v := ?v8f) ?hy8f hS ?rest8f
              case hy8f => intro w0 hSw; obtain ⟨a0, a1⟩ := hSw; go_simp; try with_reducible rfl
              simp only [Act.put, List.setIfInBounds_toArray, List.set_cons_zero, List.set_cons_succ]
              refine late_take (i := 9) (some 47) rfl rfl (by kernel_rfl) (by kernel_rfl) (by kernel_rfl) (by kernel_rfl) (by kernel_rfl) (fun _ _ _ h => h) (by rfl) (v := ?v9f) ?hy9f hS ?rest9f
              case hy9f => intro w0 hSw; obtain ⟨a0, a1⟩ := hSw; go_simp; try with_reducible rfl
              simp only [Act.put, List.setIfInBounds_toArray, List.set_cons_zero, List.set_cons_succ]
              refine late_take (i := 10) (some 48) rfl rfl (by kernel_rfl) (by kernel_rfl) (by kernel_rfl) (by kernel_rfl) (by kernel_rfl) (fun _ _ _ h => h) (by rfl) (v := ?v10f) ?hy10f hS ?rest10f
              case hy10f => intro w0 hSw; obtain ⟨a0, a1⟩ := hSw; go_simp; try with_reducible rfl
              simp only [Act.put, List.setIfInBounds_toArray, List.set_cons_zero, List.set_cons_succ]
              refine late_take (i := 11) (some 49) rfl rfl (by kernel_rfl) (by kernel_rfl) (by kernel_rfl) (by kernel_rfl) (by kernel_rfl) (fun _ _ _ h => h) (by rfl) (v := ?v11f) ?hy11f hS ?rest11f
              case hy11f => intro w0 hSw; obtain ⟨a0, a1⟩ := hSw; go_simp; try with_reducible rfl
              simp only [Act.put, List.setIfInBounds_toArray, List.set_cons_zero, List.set_cons_succ]
              refine late_take (i := 12) (some 50) rfl rfl (by kernel_rfl) (by kernel_rfl) (by kernel_rfl) (by kernel_rfl) (by kernel_rfl) (fun _ _ _ h => h) (by rfl) (v := ?v12f) ?hy12f hS ?rest12f
              case hy12f => intro w0 hSw; obtain ⟨a0, a1⟩ := hSw; go_simp; try with_reducible rfl
              simp only [Act.put, List.setIfInBounds_toArray, List.set_cons_zero, List.set_cons_succ]
              refine late_take (i := 13) (some 51) rfl rfl (by kernel_rfl) (by kernel_rfl) (by kernel_rfl) (by kernel_rfl) (by kernel_rfl) (fun _ _ _ h => h) (by rfl) (v := ?v13f) ?hy13f hS ?rest13f
              case hy13f => intro w0 hSw; obtain ⟨a0, a1⟩ := hSw; go_simp; try with_reducible rfl
              simp only [Act.put, List.setIfInBounds_toArray, List.set_cons_zero, List.set_cons_succ]
              refine late_take (i := 14) (some 52) rfl rfl (by kernel_rfl) (by kernel_rfl) (by kernel_rfl) (by kernel_rfl) (by kernel_rfl) (fun _ _ _ h => h) (by rfl) (v := ?v14f) ?hy14f hS ?rest14f
              case hy14f => intro w0 hSw; obtain ⟨a0, a1⟩ := hSw; go_simp; try with_reducible rfl
              simp only [Act.put, List.setIfInBounds_toArray, List.set_cons_zero, List.set_cons_succ]
              refine wpAnyD_one (i := 15) (by kernel_rfl) rfl (fun K hK => ?_)
              go_simp
              go_at_call 38
              (with_reducible refine (HBt.out _).mono ?_)
              rintro e w5 ⟨rfl, hb5⟩
              have HB5 := hid (below_out (same_drew1 w4).below hb5)
              have hS1f : TwoP w5 g o i b Sx Sp := ⟨cell_keep HB5.out hS0f.a0, cell_keep HB5.out hS0f.a1⟩
              clear hb5
              refine hK _ _ ⟨fun _ => hS1f, ?_⟩
              clear hK K
              refine late_take (i := 16) (some 54) rfl rfl (by kernel_rfl) (by kernel_rfl) (by kernel_rfl) (by kernel_rfl) (by kernel_rfl) (fun _ _ _ h => h) (by rfl) (v := ?v16f) ?hy16f hS1f ?rest16f
              case hy16f => intro w0 hSw; obtain ⟨a0, a1⟩ := hSw; go_simp; try with_reducible rfl
              simp only [Act.put, List.setIfInBounds_toArray, List.set_cons_zero, List.set_cons_succ]
              refine late_take (i := 17) (some 55) rfl rfl (by kernel_rfl) (by kernel_rfl) (by kernel_rfl) (by kernel_rfl) (by kernel_rfl) (fun _ _ _ h => h) (by rfl) (v := ?v17f) ?hy17f hS1f ?rest17f
              case hy17f => intro w0 hSw; obtain ⟨a0, a1⟩ := hSw; go_simp; try with_reducible rfl
              simp only [Act.put, List.setIfInBounds_toArray, List.set_cons_zero, List.set_cons_succ]
              refine late_done (by kernel_rfl) ?_ _
              refine NoPanic.normal ?_
              go_wp2
              go_roundg (n - (i + 1) + 1)
              case measure => omega
              case rel => exact ⟨i + 1, some b, by omega, rfl, by push_cast; go_num, rfl, HLs.out (by first | rfl | trivial), HB4.out.trans (HB5.out.mono HB4.out.size)⟩
      · obtain rfl : n = i := by omega
        have hPn : P.take n = P := List.take_of_length_le (by rw [HN.out]; exact Nat.le_refl _)
        have HBr := hid (below_out HB1.out HB.out)
        cases bo with
        | none =>
          have HNo := hid (show ∀ p ∈ P, fitsT (cutT p.1.tail) X = none from by have h9 := HBi.out; unfold BestI at h9; rw [hPn] at h9; exact h9)
          clear hPn
          unfold bestV
          go_wp2
          go_ret3
          exact HFn.out _ HBr.out HNo.out
        | some b =>
          obtain ⟨p, hpb, hbl, hfs, hbest⟩ := HBi.out
          rw [hPn] at hbest
          obtain ⟨F, hf⟩ := Option.isSome_iff_exists.1 hfs
          obtain ⟨L, hL⟩ : ∃ L, F.length = L := ⟨_, rfl⟩
          have HFx := hid (fun (W : World) (h : TxAt W p1 X) => HFt.out p.1 (HFi.out p (List.mem_of_getElem? hpb)) p1 c1 HCp.out W h)
          rw [hf] at HFx
          have HFx2 := hid (fun (W : World) (h : TxAt W p1 X) => (HFx.out W h).mono (R' := fun e w' => ∃ q d, e = .returned (.tuple #[.bool true, .slice q L d]) ∧ OwnF w' W.heap.size (.slice q L d) F ∧ Below W.heap.size W w') (by rintro e w' ⟨q, d, h3, h4⟩; rw [hL] at h3 h4; exact ⟨q, d, h3, h4⟩))
          have HFin := hid (show ∀ W q d, Below w.heap.size w W → OwnF W w.heap.size (.slice q L d) F → RFindAns (47 :: t) P w (.returned (.tuple #[.int .i64 p.2, .slice q L d, .int .i64 0])) W from fun W q d hbw ho => HFy.out W p F q d L hL hbw (List.mem_of_getElem? hpb) hf hbest ho)
          have HTr := hid (HTx.out.next HB.out)
          obtain ⟨g, o, rfl, q1, q2⟩ := (OwnP.pt (HR1.out.keep HB.out)) b p hpb
          obtain ⟨Sp, hSp⟩ : ∃ S, str p.1 = S := ⟨_, rfl⟩
          rw [hSp] at q1 HFx2
          have HQ2 := hid q2
          have hnb9 : ¬ (b : Int) < 0 := by omega
          have hdb : decide ((b : Int) < 0) = false := decide_eq_false hnb9
          have hbn : b < n := hbl
          obtain ⟨ID, hID⟩ : ∃ x9, p.2 = x9 := ⟨_, rfl⟩
          rw [hID] at HFin HQ2 q2
          clear hPn hpb hfs hbest hf hL HFx hSp hID HBi
          unfold bestV
          go_wp2_with (go_at_call 37; (with_reducible refine (HFx2.out _ HTr.out).mono ?_); rintro e w4 ⟨q4, d4, rfl, ho4, hb4⟩; have HB4 := hid (below_out HBr.out hb4); have HO4 := hid (ho4.lowT HBr.out.size); have q5 := cell_keep hb4 HQ2.out; clear hb4 ho4)
          go_ret3
          exact HFin.out _ _ _ HB4.out HO4.out
end Go.Proofs.YtdjjkcpnjocafaaDoor
