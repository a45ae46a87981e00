/- The first value of a name, on both sides: the closure that tells a name, the place of the first field that has it. -/
import Derived.Test.YtnlmjlfoeodleaaGreatDoorCSame
import Derived.Test.YtnlmjlfoeodleaaGreatDoorHFine
import Derived.Test.YtnlmjlfoeodleaaGreatDoorCTrim
import Derived.Laws.MakeOwn
namespace Go.Proofs.YtnlmjlfoeodleaaGreatDoor
open Go.RowKit

def szW (fs : List (B × B)) : Prop := ∀ f ∈ fs, f.1.length ≤ 140737488351232 ∧ f.2.length ≤ 140737488351232
/-- Whether a field has the name. -/
def isF (nm : ByteArray) (f : B × B) : Bool := sameB (str f.1) nm
def getB (fs : List (B × B)) (nm : ByteArray) : ByteArray × Bool := match fs.find? (isF nm) with
  | some f => (str f.2, true)
  | none => (⟨#[]⟩, false)
/-- The first i fields have not the name. -/
def noneTo (fs : List (B × B)) (nm : ByteArray) (i : Nat) : Prop := ∀ f ∈ fs.take i, isF nm f = false
theorem noneTo_next {fs : List (B × B)} {nm : ByteArray} {i : Nat} {f : B × B} (h : noneTo fs nm i) (hf : fs[i]? = some f) (hn : isF nm f = false) : noneTo fs nm (i + 1) := by
  intro g hg
  rw [List.take_add_one, hf] at hg
  rcases List.mem_append.1 hg with h1 | h1
  · exact h g h1
  · simp at h1; rw [h1]; exact hn
theorem findF_none {fs : List (B × B)} {nm : ByteArray} {n : Nat} (hn : fs.length = n) (h : noneTo fs nm n) : fs.find? (isF nm) = none := by
  rw [List.find?_eq_none]
  intro f hf
  have := h f (by rw [List.take_of_length_le (by omega)]; exact hf)
  rw [this]; decide
theorem findF_at : ∀ {fs : List (B × B)} {nm : ByteArray} {i : Nat} {f : B × B}, noneTo fs nm i → fs[i]? = some f → isF nm f = true → fs.find? (isF nm) = some f
  | [], _, i, f, _, h, _ => by simp at h
  | x :: l, nm, 0, f, _, h, hf => by
    simp at h
    subst h
    rw [List.find?_cons_of_pos hf]
  | x :: l, nm, i + 1, f, hn, h, hf => by
    have hx : isF nm x = false := hn x (by simp)
    rw [List.find?_cons_of_neg (by rw [hx]; decide)]
    exact findF_at (i := i) (fun g hg => hn g (by simp [hg])) (by simpa using h) hf
/-- The place of the first field that has the name, or -1. -/
def idxI (fs : List (B × B)) (nm : ByteArray) (I : Int) : Prop := (I = -1 ∧ noneTo fs nm fs.length) ∨ ∃ (i : Nat) (f : B × B), I = (i : Int) ∧ noneTo fs nm i ∧ fs[i]? = some f ∧ isF nm f = true
theorem mem_takeF {fs : List (B × B)} {i j : Nat} {f : B × B} (h : fs[i]? = some f) (hij : i < j) : f ∈ fs.take j := by
  refine List.mem_of_getElem? (i := i) ?_
  rw [List.getElem?_take, if_pos hij]
  exact h
theorem idx_yes {fs : List (B × B)} {nm : ByteArray} {I : Int} {i : Nat} {f : B × B} (h : idxI fs nm I) (hn : noneTo fs nm i) (hf : fs[i]? = some f) (hs : isF nm f = true) : I = (i : Int) := by
  have hlt := (List.getElem?_eq_some_iff.1 hf).1
  rcases h with ⟨_, h1⟩ | ⟨j, g, rfl, h1, h2, h3⟩
  · have := h1 f (mem_takeF hf hlt)
    rw [hs] at this; cases this
  · rcases Nat.lt_trichotomy i j with h4 | h4 | h4
    · have := h1 f (mem_takeF hf h4)
      rw [hs] at this; cases this
    · rw [h4]
    · have := hn g (mem_takeF h2 h4)
      rw [h3] at this; cases this
theorem idx_no {fs : List (B × B)} {nm : ByteArray} {I : Int} (h : idxI fs nm I) (hn : ¬ ∃ (i : Nat) (f : B × B), noneTo fs nm i ∧ fs[i]? = some f ∧ isF nm f = true) : I = -1 ∧ noneTo fs nm fs.length := by
  rcases h with h | ⟨j, g, rfl, h1, h2, h3⟩
  · exact h
  · exact absurd ⟨j, g, h1, h2, h3⟩ hn
theorem idx_all (fs : List (B × B)) (nm : ByteArray) (hn : ¬ ∃ (i : Nat) (f : B × B), noneTo fs nm i ∧ fs[i]? = some f ∧ isF nm f = true) : ∀ i, i ≤ fs.length → noneTo fs nm i
  | 0, _ => fun f hf => by simp at hf
  | i + 1, h => by
    have ih := idx_all fs nm hn i (by omega)
    have hf : fs[i]? = some (fs[i]'(by omega)) := List.getElem?_eq_getElem _
    refine noneTo_next ih hf ?_
    cases hs : isF nm (fs[i]'(by omega)) with
    | false => rfl
    | true => exact absurd ⟨i, _, ih, hf, hs⟩ hn
theorem same_belW (a b : ByteArray) (w : World) (ha : a.size ≤ 140737488351232) (hb : b.size ≤ 140737488351232) : Calls Tryz.prog 97 #[.string a, .string b] w fun e w' => e = .returned (.bool (sameB a b)) ∧ Below w.heap.size w w' :=
  (same_any a b w (Nat.le_trans ha (by decide)) (Nat.le_trans hb (by decide))).mono (fun e w' ⟨h1, m, h2⟩ => ⟨h1, by rw [h2]; exact below_drew (Below.refl _ _) m⟩)
/-- The closure of a name. -/
abbrev nameV (g : Nat) : Value := .func (.func 117) #[] #[.pointer (some ⟨g, 0, none⟩)]
set_option maxRecDepth 20000 in
set_option maxHeartbeats 4000000 in
theorem named_any (nm : ByteArray) (w : World) : Calls Tryz.prog 77 #[.string nm] w fun e w' => e = .returned (nameV w.heap.size) ∧ w' = w.alloc (.cells #[.string nm] 9 (0, 0)) := by
  go_enter Tryz.func77, Tryz.ntmps77
  go_wp2
  go_ret
  exact ⟨rfl, rfl⟩
set_option maxRecDepth 20000 in
set_option maxHeartbeats 4000000 in
theorem is_any (g : Nat) (nm N V : ByteArray) (w : World) (hg : w.cell? ⟨g, 0, none⟩ = some (.string nm)) (hN : N.size ≤ 140737488351232) (hnm : nm.size ≤ 140737488351232) :
    Calls Tryz.prog 117 #[.agg #[.string N, .string V], .pointer (some ⟨g, 0, none⟩)] w fun e w' => e = .returned (.bool (sameB N nm)) ∧ Below w.heap.size w w' := by
  have HS := hid (show ∀ W : World, _ from fun W => same_belW N nm W hN hnm)
  have HB0 := hid (below_new w (.cells #[.string N, .string V] 88 (0, 0)))
  have hg2 := cell_keep HB0.out hg
  clear hg
  go_enter Tryz.func117, Tryz.ntmps117
  go_wp2_with (go_at_call 97; (with_reducible refine (HS.out _).mono ?_); rintro e w1 ⟨rfl, hb⟩; have HB1 := hid (below_out HB0.out hb); clear hb HS)
  go_ret
  exact ⟨rfl, HB1.out⟩
set_option maxRecDepth 20000 in
set_option maxHeartbeats 8000000 in
theorem indexf_any (fs : List (B × B)) (p : Option Addr) (n c : Nat) (hn : fs.length = n) (g : Nat) (nm : ByteArray) (w : World) (hF : FAt w p fs) (hsz : szW fs) (hnm : nm.size ≤ 140737488351232) (hnn : n ≤ 140737488351232) (hg : w.cell? ⟨g, 0, none⟩ = some (.string nm)) :
    Calls Tryz.prog 118 #[.slice p n c, nameV g] w fun e w' => ∃ I, e = .returned (.int .i64 I) ∧ idxI fs nm I ∧ Below w.heap.size w w' := by
  have HF := hid hF
  have HN := hid hn
  have HZ := hid hsz
  have HG := hid hg
  clear hF hn hsz hg
  go_enter Tryz.func118, Tryz.ntmps118
  go_wp2
  go_loopg [8] (n + 1) (fun gk s8 wr => ∃ i : Nat, s8 = .int .i64 (i : Int) ∧ i ≤ n ∧ gk = n - i + 1 ∧ noneTo fs nm i ∧ Below w.heap.size w wr)
  case atStart => exact ⟨0, rfl, by omega, rfl, fun f hf => by simp at hf, Below.refl _ _⟩
  case round =>
    obtain ⟨i, rfl, hin, rfl, hno, hb⟩ := hrel
    rename World => wr
    have HB := hid hb
    have HO := hid hno
    clear hb hno
    by_cases hlt : i < n
    · obtain ⟨f, hf⟩ : ∃ f, fs[i]? = some f := ⟨fs[i]'(by rw [HN.out]; exact hlt), List.getElem?_eq_getElem (by rw [HN.out]; exact hlt)⟩
      obtain ⟨gg, o, hp, c0, c1⟩ := (HF.out.next HB.out) i f hf
      subst hp
      have hltI : (i : Int) < (n : Int) := by omega
      obtain ⟨z1, z2⟩ := HZ.out f (List.mem_of_getElem? hf)
      have HI := hid (is_any g nm (str f.1) (str f.2) wr (cell_keep HB.out HG.out) (by rw [str_size]; exact z1) hnm)
      have HFi := hid hf
      obtain ⟨N, hN⟩ : ∃ N, str f.1 = N := ⟨_, rfl⟩
      obtain ⟨V, hV⟩ : ∃ V, str f.2 = V := ⟨_, rfl⟩
      have hs : isF nm f = sameB N nm := by unfold isF; rw [hN]
      rw [hN] at c0
      rw [hV] at c1
      rw [hN, hV] at HI
      obtain ⟨S, hS⟩ : ∃ S, sameB N nm = S := ⟨_, rfl⟩
      rw [hS] at HI hs
      have HS := hid hs
      clear hf hN hV hs hS z1 z2
      cases S with
      | true =>
        go_wp2_with (go_at_call 117; (with_reducible refine HI.out.mono ?_); rintro e w2 ⟨rfl, hb⟩; have HB2 := hid (below_out HB.out hb); clear hb HI)
        (try simp only [Exit.inBlock, Exit.then])
        go_ret
        exact ⟨(i : Int), rfl, .inr ⟨i, f, rfl, HO.out, HFi.out, HS.out⟩, HB2.out⟩
      | false =>
        have HX := hid (noneTo_next HO.out HFi.out HS.out)
        go_wp2_with (go_at_call 117; (with_reducible refine HI.out.mono ?_); rintro e w2 ⟨rfl, hb⟩; have HB2 := hid (below_out HB.out hb); clear hb HI)
        go_roundg (n - (i + 1) + 1)
        case measure => omega
        case rel => exact ⟨i + 1, by go_num, by omega, rfl, HX.out, HB2.out⟩
    · obtain rfl : i = n := by omega
      have hltI : ¬ (i : Int) < (i : Int) := by omega
      clear hlt
      go_wp2
      go_ret
      exact ⟨-1, rfl, .inl ⟨rfl, by rw [HN.out]; exact HO.out⟩, HB.out⟩
set_option maxRecDepth 20000 in
set_option maxHeartbeats 8000000 in
theorem pget (fs : List (B × B)) (p : Option Addr) (n c : Nat) (hn : fs.length = n) (nm : ByteArray) (w : World) (hF : FAt w p fs) (hsz : szW fs) (hnm : nm.size ≤ 140737488351232) (hnn : n ≤ 140737488351232) :
    Calls Tryz.prog 78 #[.slice p n c, .string nm] w fun e w' => e = .returned (.tuple #[.string (getB fs nm).1, .bool (getB fs nm).2]) ∧ Below w.heap.size w w' := by
  have HNa := hid (show ∀ W : World, _ from fun W => named_any nm W)
  have HB0 := hid (below_new w (.cells #[.string nm] 9 (0, 0)))
  have hc0 : (w.alloc (.cells #[.string nm] 9 (0, 0))).cell? ⟨w.heap.size, 0, none⟩ = some (.string nm) := by simp only [World.cell?, heap_alloc_new w (.cells #[.string nm] 9 (0, 0))]; rfl
  have HIx := hid (indexf_any fs p n c hn w.heap.size nm (w.alloc (.cells #[.string nm] 9 (0, 0))) (hF.next HB0.out) hsz hnm hnn hc0)
  have HF := hid hF
  have HZ := hid hsz
  have HN := hid hn
  clear hF hsz hn hc0
  by_cases hex : ∃ (i : Nat) (f : B × B), noneTo fs nm i ∧ fs[i]? = some f ∧ isF nm f = true
  · obtain ⟨i, f, hno, hf, his⟩ := hex
    have hlt : i < n := by rw [← HN.out]; exact (List.getElem?_eq_some_iff.1 hf).1
    obtain ⟨z1, z2⟩ := HZ.out f (List.mem_of_getElem? hf)
    obtain ⟨gg, o, hp, c0, c1⟩ := HF.out i f hf
    subst hp
    have HX := hid (show getB fs nm = (str f.2, true) from by unfold getB; rw [findF_at hno hf his])
    rw [HX.out]
    have HYs := hid (show ∀ I, idxI fs nm I → I = (i : Int) from fun I h => idx_yes h hno hf his)
    have HCl := hid (show ∀ W : World, _ from fun W => clone_any (str f.2) W (by rw [str_size]; omega))
    have HC1 := hid c1
    obtain ⟨V, hV⟩ : ∃ V, str f.2 = V := ⟨_, rfl⟩
    rw [hV] at HCl HC1 ⊢
    clear hno hf his z1 z2 hV c0 c1 HX
    go_enter Tryz.func78, Tryz.ntmps78
    go_wp2_with (first | (go_at_call 77; (with_reducible refine (HNa.out _).mono ?_); rintro e w1 ⟨rfl, hw1⟩; subst w1; clear HNa) | (go_at_call 118; (with_reducible refine HIx.out.mono ?_); rintro e w2 ⟨I, rfl, hI, hb⟩; have HB2 := hid (below_out HB0.out hb); obtain rfl := HYs.out I hI; have k1 := cell_keep HB2.out HC1.out; clear hb HIx) | (go_at_call 44; (with_reducible refine (HCl.out _).mono ?_); rintro e w3 ⟨rfl, hb⟩; have HB3 := hid (below_out HB2.out hb); clear hb HCl))
    go_ret2
    exact ⟨rfl, HB3.out⟩
  · have HX := hid (show getB fs nm = (⟨#[]⟩, false) from by unfold getB; rw [findF_none HN.out (by rw [← HN.out]; exact idx_all fs nm hex _ (Nat.le_refl _))])
    rw [HX.out]
    have HNo := hid (show ∀ I, idxI fs nm I → I = -1 from fun I h => (idx_no h hex).1)
    clear hex HX
    go_enter Tryz.func78, Tryz.ntmps78
    go_wp2_with (first | (go_at_call 77; (with_reducible refine (HNa.out _).mono ?_); rintro e w1 ⟨rfl, hw1⟩; subst w1; clear HNa) | (go_at_call 118; (with_reducible refine HIx.out.mono ?_); rintro e w2 ⟨I, rfl, hI, hb⟩; have HB2 := hid (below_out HB0.out hb); obtain rfl := HNo.out I hI; clear hb HIx))
    go_ret2
    exact ⟨rfl, HB2.out⟩
set_option maxRecDepth 20000 in
set_option maxHeartbeats 8000000 in
theorem dget (fs : List (B × B)) (p : Option Addr) (n c : Nat) (hn : fs.length = n) (nm : ByteArray) (w : World) (hF : FAt w p fs) (hsz : szW fs) (hnm : nm.size ≤ 140737488351232) (hnn : n ≤ 140737488351232) :
    Calls Tryz.prog 90 #[.slice p n c, .string nm] w fun e w' => e = .returned (.tuple #[.string (getB fs nm).1, .bool (getB fs nm).2]) ∧ Below w.heap.size w w' := by
  have HF := hid hF
  have HN := hid hn
  have HZ := hid hsz
  obtain ⟨T, hT⟩ : ∃ T, getB fs nm = T := ⟨_, rfl⟩
  rw [hT]
  have HT := hid hT
  clear hF hn hsz hT
  go_enter Tryz.func90, Tryz.ntmps90
  go_wp2
  go_loopg [6] (n + 1) (fun gk s6 wr => ∃ i : Nat, s6 = .int .i64 (i : Int) ∧ i ≤ n ∧ gk = n - i + 1 ∧ noneTo fs nm i ∧ Below w.heap.size w wr)
  case atStart => exact ⟨0, rfl, by omega, rfl, fun f hf => by simp at hf, Below.refl _ _⟩
  case round =>
    obtain ⟨i, rfl, hin, rfl, hno, hb⟩ := hrel
    rename World => wr
    have HB := hid hb
    have HO := hid hno
    clear hb hno
    by_cases hlt : i < n
    · obtain ⟨f, hf⟩ : ∃ f, fs[i]? = some f := ⟨fs[i]'(by rw [HN.out]; exact hlt), List.getElem?_eq_getElem (by rw [HN.out]; exact hlt)⟩
      obtain ⟨gg, o, hp, c0, c1⟩ := (HF.out.next HB.out) i f hf
      subst hp
      have hltI : (i : Int) < (n : Int) := by omega
      obtain ⟨z1, z2⟩ := HZ.out f (List.mem_of_getElem? hf)
      have HI := hid (show ∀ W : World, _ from fun W => rsame_any (str f.1) nm W (by rw [str_size]; exact z1) hnm)
      have HFi := hid hf
      obtain ⟨S, hS⟩ : ∃ S, sameB (str f.1) nm = S := ⟨_, rfl⟩
      have HS := hid (show isF nm f = S from hS)
      rw [hS] at HI
      obtain ⟨N, hN⟩ : ∃ N, str f.1 = N := ⟨_, rfl⟩
      obtain ⟨V, hV⟩ : ∃ V, str f.2 = V := ⟨_, rfl⟩
      have HV := hid hV
      rw [hN] at c0 HI
      rw [hV] at c1
      clear hf hN hV hS z1 z2
      cases S with
      | true =>
        have HX := hid (show T = (V, true) from by rw [← HT.out]; unfold getB; rw [findF_at HO.out HFi.out HS.out, ← HV.out])
        go_wp2_with (go_at_call 49; (with_reducible refine (HI.out _).mono ?_); rintro e w2 ⟨rfl, hb⟩; have HB2 := hid (below_out HB.out hb); have x1 := cell_keep hb c1; clear hb HI)
        (try simp only [Exit.inBlock, Exit.then])
        go_ret2
        exact ⟨by rw [HX.out]; rfl, HB2.out⟩
      | false =>
        have HX := hid (noneTo_next HO.out HFi.out HS.out)
        go_wp2_with (go_at_call 49; (with_reducible refine (HI.out _).mono ?_); rintro e w2 ⟨rfl, hb⟩; have HB2 := hid (below_out HB.out hb); clear hb HI)
        go_roundg (n - (i + 1) + 1)
        case measure => omega
        case rel => exact ⟨i + 1, by go_num, by omega, rfl, HX.out, HB2.out⟩
    · obtain rfl : i = n := by omega
      have hltI : ¬ (i : Int) < (i : Int) := by omega
      have HX := hid (show T = (⟨#[]⟩, false) from by rw [← HT.out]; unfold getB; rw [findF_none HN.out HO.out])
      clear hlt
      go_wp2
      go_ret2
      exact ⟨by rw [HX.out]; rfl, HB.out⟩
end Go.Proofs.YtnlmjlfoeodleaaGreatDoor
/- Fields in memory of their own; what is left without a name. -/
namespace Go.Proofs.YtnlmjlfoeodleaaGreatDoor
open Go.RowKit

/-- A row of so many fields, the first ones told. -/
def rowA (A : List (B × B)) (m : Nat) : List Value := fldC A ++ fldC (List.replicate m ([], []))
theorem rep_len (m : Nat) : (fldC (List.replicate m (([], []) : B × B))).length = m * 2 := by rw [fldC_len, List.length_replicate]
theorem rep_get {m j : Nat} (h : j < m * 2) : (fldC (List.replicate m (([], []) : B × B)))[j]? = some (.string ⟨#[]⟩) := by
  induction m generalizing j with
  | zero => omega
  | succ m ih =>
    have e : fldC (List.replicate (m + 1) (([], []) : B × B)) = .string ⟨#[]⟩ :: .string ⟨#[]⟩ :: fldC (List.replicate m ([], [])) := by rw [List.replicate_succ]; rfl
    rw [e]
    match j, h with
    | 0, _ => rfl
    | 1, _ => rfl
    | j + 2, h => simp only [List.getElem?_cons_succ]; exact ih (by omega)
theorem made_row (n : Nat) : madeCells #[.string ⟨#[]⟩, .string ⟨#[]⟩] (n * 2) = (rowA [] n).toArray := by
  apply Array.ext'
  apply List.ext_getElem?
  intro j
  have e0 : (rowA [] n).toArray.toList = fldC (List.replicate n ([], [])) := by simp [rowA, fldC]
  rw [e0]
  by_cases h : j < n * 2
  · rw [rep_get h]
    unfold madeCells
    have h2 : j % 2 = 0 ∨ j % 2 = 1 := by omega
    simp [h]
    rcases h2 with h2 | h2 <;> simp [h2]
  · rw [List.getElem?_eq_none (l := (madeCells _ _).toList) (by simp [madeCells]; omega), List.getElem?_eq_none (by rw [rep_len]; omega)]
theorem set_two (X Y : List Value) (a b v0 v1 : Value) (k : Nat) (hk : X.length = k) : ((X ++ a :: b :: Y).toArray.setIfInBounds k v0).setIfInBounds (k + 1) v1 = (X ++ v0 :: v1 :: Y).toArray := by
  subst hk
  simp
theorem rowA_next (A : List (B × B)) (m k : Nat) (f : B × B) (hk : A.length * 2 = k) : ((rowA A (m + 1)).toArray.setIfInBounds k (.string (str f.1))).setIfInBounds (k + 1) (.string (str f.2)) = (rowA (A ++ [f]) m).toArray := by
  have e : rowA A (m + 1) = fldC A ++ .string ⟨#[]⟩ :: .string ⟨#[]⟩ :: fldC (List.replicate m ([], [])) := by unfold rowA; rw [List.replicate_succ]; rfl
  have e2 : rowA (A ++ [f]) m = fldC A ++ .string (str f.1) :: .string (str f.2) :: fldC (List.replicate m ([], [])) := by unfold rowA; rw [fldC_app, List.append_assoc]; rfl
  rw [e, e2]
  exact set_two _ _ _ _ _ _ k (by rw [fldC_len]; exact hk)
theorem put_two {w : World} {g : Nat} {cur : Array Value} {T : TypeId} (h : w.heap[g]? = some (.cells cur T (0, 0))) (k : Nat) (v0 v1 : Value) :
    ((w.setCell ⟨g, k, none⟩ v0).setCell ⟨g, k + 1, none⟩ v1).heap[g]? = some (.cells ((cur.setIfInBounds k v0).setIfInBounds (k + 1) v1) T (0, 0)) := by
  simp [World.setCell, Array.getElem?_modify, h]
theorem set_other {w : World} {g k j : Nat} (o o2 : Nat) (v0 v1 : Value) (hj : j ≠ g) : ((w.setCell ⟨g, o, none⟩ v0).setCell ⟨g, o2, none⟩ v1).cell? ⟨j, k, none⟩ = w.cell? ⟨j, k, none⟩ := by
  simp [World.setCell, World.cell?, Array.getElem?_modify, Ne.symm hj]
theorem cell_rowA {w : World} {g : Nat} {A : List (B × B)} {m : Nat} {T : TypeId} (h : w.heap[g]? = some (.cells (rowA A (m + 1)).toArray T (0, 0))) (k : Nat) (hk : A.length * 2 = k) : w.cell? ⟨g, k, none⟩ = some (.string ⟨#[]⟩) ∧ w.cell? ⟨g, k + 1, none⟩ = some (.string ⟨#[]⟩) ∧ w.frozen? ⟨g, k, none⟩ = false ∧ w.frozen? ⟨g, k + 1, none⟩ = false := by
  have e : rowA A (m + 1) = fldC A ++ .string ⟨#[]⟩ :: .string ⟨#[]⟩ :: fldC (List.replicate m ([], [])) := by unfold rowA; rw [List.replicate_succ]; rfl
  have hl : (fldC A).length = k := by rw [fldC_len]; exact hk
  refine ⟨?_, ?_, by simp [World.frozen?, h], by simp [World.frozen?, h]⟩
  · simp only [World.cell?, h, e]
    simp [hl]
  · simp only [World.cell?, h, e]
    simp [hl]
/-- A row of fields that fills its block. -/
def BlkF (w : World) (g : Nat) (fs : List (B × B)) : Prop := w.heap[g]? = some (.cells (fldC fs).toArray 88 (0, 0))
theorem BlkF.next {w w' : World} {g : Nat} {fs : List (B × B)} (h : BlkF w g fs) (hb : Below w.heap.size w w') : BlkF w' g fs := (hb.block _ (lt_of_heap h)).trans h
theorem arr_fat {w : World} {g : Nat} {fs : List (B × B)} {Z : List Value} {T : TypeId} (h : w.heap[g]? = some (.cells (fldC fs ++ Z).toArray T (0, 0))) : FAt w (some ⟨g, 0, none⟩) fs := by
  intro j f hj
  obtain ⟨h0, h1⟩ := fldC_at fs j f hj
  have hlt : j < fs.length := (List.getElem?_eq_some_iff.1 hj).1
  refine ⟨g, 0, rfl, ?_, ?_⟩
  · rw [Nat.zero_add, Nat.mul_comm]
    simp only [World.cell?, h]
    simp only [List.getElem?_toArray]
    rw [List.getElem?_append_left (by rw [fldC_len]; omega)]
    exact h0
  · rw [Nat.zero_add, Nat.mul_comm]
    simp only [World.cell?, h]
    simp only [List.getElem?_toArray]
    rw [List.getElem?_append_left (by rw [fldC_len]; omega)]
    exact h1
theorem BlkF.fat {w : World} {g : Nat} {fs : List (B × B)} (h : BlkF w g fs) : FAt w (some ⟨g, 0, none⟩) fs := arr_fat (Z := []) (by unfold BlkF at h; rw [List.append_nil]; exact h)
structure RdW (U : World) (g : Nat) (N V : ByteArray) : Prop where
  a0 : U.cell? ⟨g, 0, none⟩ = some (.string N)
  a1 : U.cell? ⟨g, 1, none⟩ = some (.string V)
theorem RdW.next {U V : World} {g : Nat} {N M : ByteArray} (h : RdW U g N M) (hb : Below U.heap.size U V) : RdW V g N M := ⟨cell_keep hb h.a0, cell_keep hb h.a1⟩
theorem RdW.new (w : World) (N V : ByteArray) : RdW (w.alloc (.cells #[.string N, .string V] 88 (0, 0))) w.heap.size N V := by
  have h := heap_alloc_new w (.cells #[.string N, .string V] 88 (0, 0))
  exact ⟨by simp only [World.cell?, h]; rfl, by simp only [World.cell?, h]; rfl⟩
theorem box2W {V : World} {g : Nat} {a b : Value} {T : TypeId} (h : V.heap[g]? = some (.cells #[a, b] T (0, 0))) : V.cell? ⟨g, 0, none⟩ = some a ∧ V.cell? ⟨g, 1, none⟩ = some b := by
  constructor <;> simp [World.cell?, h]
set_option maxRecDepth 20000 in
set_option maxHeartbeats 8000000 in
theorem own_any (fs : List (B × B)) (p : Option Addr) (n c : Nat) (hn : fs.length = n) (w : World) (hF : FAt w p fs) (hsz : szW fs) (hnn : n ≤ 4398046511104) :
    Calls Tryz.prog 75 #[.slice p n c] w fun e w' => e = .returned (.slice (some ⟨w.heap.size, 0, none⟩) n n) ∧ BlkF w' w.heap.size fs ∧ Below w.heap.size w w' := by
  obtain ⟨i0, hi0, hz0, hz1, hz2⟩ := info_parts infoF
  have hmk : (Instr.makeSlice 33 (.int .i64 (n : Int)) (.int .i64 (n : Int))).run Tryz.prog w = .ok (.slice (some ⟨w.heap.size, 0, none⟩) n n) (w.alloc (.cells (rowA [] n).toArray 88 (0, 0))) := by
    have h := run_make (P := Tryz.prog) w 33 88 i0 _ Tryz.underlying33 hi0 hz0 .i64 .i64 (n : Int) (n : Int) (by omega) (Int.le_refl _) (by rw [hz2]; omega) (by omega)
    rw [hz1, Int.toNat_natCast] at h
    rw [h]
    congr 2
    exact congrArg (fun x => Obj.cells x 88 (0, 0)) (made_row n)
  have HF := hid hF
  have HN := hid hn
  have HZ := hid hsz
  have HX0 := hid (heap_alloc_new w (.cells (rowA [] n).toArray 88 (0, 0)))
  have HB0 := hid (below_new w (.cells (rowA [] n).toArray 88 (0, 0)))
  obtain ⟨W1, hW1⟩ : ∃ W, w.alloc (.cells (rowA [] n).toArray 88 (0, 0)) = W := ⟨_, rfl⟩
  rw [hW1] at hmk HX0 HB0
  clear hF hn hsz hW1 hi0 hz0 hz1 hz2
  go_enter Tryz.func75, Tryz.ntmps75
  go_wp2
  clear hmk
  go_loopg [11] (n + 1) (fun gk s wr => ∃ i : Nat, s = .int .i64 (i : Int) ∧ i ≤ n ∧ gk = n - i + 1 ∧ wr.heap[w.heap.size]? = some (.cells (rowA (fs.take i) (n - i)).toArray 88 (0, 0)) ∧ Below w.heap.size w wr)
  case atStart => exact ⟨0, rfl, by omega, rfl, HX0.out, HB0.out⟩
  case round =>
    obtain ⟨i, rfl, hin, rfl, hx, hb⟩ := hrel
    rename World => wr
    have HB := hid hb
    have HX := hid hx
    clear hb hx
    by_cases hlt : i < n
    · obtain ⟨f, hf⟩ : ∃ f, fs[i]? = some f := ⟨fs[i]'(by rw [HN.out]; exact hlt), List.getElem?_eq_getElem (by rw [HN.out]; exact hlt)⟩
      obtain ⟨g, o, hp, c0, c1⟩ := (HF.out.next HB.out) i f hf
      subst hp
      have hltI : (i : Int) < (n : Int) := by omega
      obtain ⟨z1, z2⟩ := HZ.out f (List.mem_of_getElem? hf)
      have HC1 := hid (show ∀ W : World, _ from fun W => clone_any (str f.1) W (by rw [str_size]; omega))
      have HC2 := hid (show ∀ W : World, _ from fun W => clone_any (str f.2) W (by rw [str_size]; omega))
      have HY := hid (show fs.take (i + 1) = fs.take i ++ [f] from by rw [List.take_add_one, hf]; rfl)
      have HLi := hid (show (fs.take i).length * 2 = i * 2 from by rw [List.length_take, HN.out]; omega)
      obtain ⟨N, hN⟩ : ∃ N, str f.1 = N := ⟨_, rfl⟩
      obtain ⟨V, hV⟩ : ∃ V, str f.2 = V := ⟨_, rfl⟩
      rw [hN] at c0 HC1
      rw [hV] at c1 HC2
      have HNN := hid hN
      have HVV := hid hV
      have HG := hid (lt_of_heap HX.out)
      have hbx := below_new wr (.cells #[.string N, .string V] 88 (0, 0))
      have HS0 := hid (RdW.new wr N V)
      have HB1 := hid (below_out HB.out hbx)
      have HX1 := hid ((hbx.block _ HG.out).trans HX.out)
      clear hf hN hV z1 z2 hbx
      go_wp2
      generalize (wr.alloc (.cells #[.string N, .string V] 88 (0, 0))) = U1 at HS0 HB1 HX1 ⊢
      have hS0 : RdW U1.drew wr.heap.size N V := ⟨HS0.out.a0, HS0.out.a1⟩
      have HB2 := hid (show Below w.heap.size w U1.drew from HB1.out.drew)
      have HX2 := hid (show U1.drew.heap[w.heap.size]? = _ from HX1.out)
      clear HS0 HB1 HX1 c0 c1
      refine wp_region_noPanic ?_
      refine any_begin 11 (by kernel_rfl) (by kernel_rfl) ?_
      refine late_begin (fun U => RdW U wr.heap.size N V) (fun _ => false) hS0 (fun hS => ?_)
      refine late_take (i := 0) (some 16) rfl rfl (by kernel_rfl) (by kernel_rfl) (by kernel_rfl) (by kernel_rfl) (by kernel_rfl) (fun _ _ _ h => h) (by rfl) (v := ?v0o) ?hy0o hS ?rest0o
      case hy0o => intro w0 hSw; obtain ⟨a0, a1⟩ := hSw; go_simp; try with_reducible rfl
      simp only [Act.put, List.setIfInBounds_toArray, List.set_cons_zero, List.set_cons_succ]
      refine late_take (i := 1) (some 17) rfl rfl (by kernel_rfl) (by kernel_rfl) (by kernel_rfl) (by kernel_rfl) (by kernel_rfl) (fun _ _ _ h => h) (by rfl) (v := ?v1o) ?hy1o hS ?rest1o
      case hy1o => intro w0 hSw; obtain ⟨a0, a1⟩ := hSw; go_simp; try with_reducible rfl
      simp only [Act.put, List.setIfInBounds_toArray, List.set_cons_zero, List.set_cons_succ]
      refine late_take (i := 2) (some 18) rfl rfl (by kernel_rfl) (by kernel_rfl) (by kernel_rfl) (by kernel_rfl) (by kernel_rfl) (fun _ _ _ h => h) (by rfl) (v := ?v2o) ?hy2o hS ?rest2o
      case hy2o => intro w0 hSw; obtain ⟨a0, a1⟩ := hSw; go_simp; try with_reducible rfl
      simp only [Act.put, List.setIfInBounds_toArray, List.set_cons_zero, List.set_cons_succ]
      refine late_take (i := 3) (some 19) rfl rfl (by kernel_rfl) (by kernel_rfl) (by kernel_rfl) (by kernel_rfl) (by kernel_rfl) (fun _ _ _ h => h) (by rfl) (v := ?v3o) ?hy3o hS ?rest3o
      case hy3o => intro w0 hSw; obtain ⟨a0, a1⟩ := hSw; go_simp; try with_reducible rfl
      simp only [Act.put, List.setIfInBounds_toArray, List.set_cons_zero, List.set_cons_succ]
      refine late_take (i := 5) (some 21) rfl rfl (by kernel_rfl) (by kernel_rfl) (by kernel_rfl) (by kernel_rfl) (by kernel_rfl) (fun _ _ _ h => h) (by rfl) (v := ?v5o) ?hy5o hS ?rest5o
      case hy5o => intro w0 hSw; obtain ⟨a0, a1⟩ := hSw; go_simp; try with_reducible rfl
      simp only [Act.put, List.setIfInBounds_toArray, List.set_cons_zero, List.set_cons_succ]
      refine late_take (i := 6) (some 22) rfl rfl (by kernel_rfl) (by kernel_rfl) (by kernel_rfl) (by kernel_rfl) (by kernel_rfl) (fun _ _ _ h => h) (by rfl) (v := ?v6o) ?hy6o hS ?rest6o
      case hy6o => intro w0 hSw; obtain ⟨a0, a1⟩ := hSw; go_simp; try with_reducible rfl
      simp only [Act.put, List.setIfInBounds_toArray, List.set_cons_zero, List.set_cons_succ]
      refine wpAnyD_one (i := 4) (by kernel_rfl) rfl (fun K hK => ?_)
      go_simp
      go_at_call 44
      refine (HC1.out _).mono ?_
      rintro e w3 ⟨rfl, hb⟩
      have HB3 := hid (below_out HB2.out hb)
      have HX3 := hid ((hb.block _ (lt_of_heap HX2.out)).trans HX2.out)
      have hS3 := hS.next hb
      refine hK _ _ ⟨fun _ => hS3, ?_⟩
      clear hK K hb hS hS0
      refine wpAnyD_one (i := 7) (by kernel_rfl) rfl (fun K hK => ?_)
      go_simp
      go_at_call 44
      refine (HC2.out _).mono ?_
      rintro e w4 ⟨rfl, hb⟩
      have HB4 := hid (below_out HB3.out hb)
      have HX4 := hid ((hb.block _ (lt_of_heap HX3.out)).trans HX3.out)
      have hS4 := hS3.next hb
      refine hK _ _ ⟨fun _ => hS4, ?_⟩
      clear hK K hb hS3
      refine late_take (i := 8) (some 24) rfl rfl (by kernel_rfl) (by kernel_rfl) (by kernel_rfl) (by kernel_rfl) (by kernel_rfl) (fun _ _ _ h => h) (by rfl) (v := ?v8o) ?hy8o hS4 ?rest8o
      case hy8o => intro w0 hSw; obtain ⟨a0, a1⟩ := hSw; go_simp; try with_reducible rfl
      simp only [Act.put, List.setIfInBounds_toArray, List.set_cons_zero, List.set_cons_succ]
      refine late_take (i := 9) (some 25) rfl rfl (by kernel_rfl) (by kernel_rfl) (by kernel_rfl) (by kernel_rfl) (by kernel_rfl) (fun _ _ _ h => h) (by rfl) (v := ?v9o) ?hy9o hS4 ?rest9o
      case hy9o => intro w0 hSw; obtain ⟨a0, a1⟩ := hSw; go_simp; try with_reducible rfl
      simp only [Act.put, List.setIfInBounds_toArray, List.set_cons_zero, List.set_cons_succ]
      have HX5 := hid (show w4.heap[w.heap.size]? = some (.cells (rowA (fs.take i) (n - (i + 1) + 1)).toArray 88 (0, 0)) from by rw [show n - (i + 1) + 1 = n - i by omega]; exact HX4.out)
      obtain ⟨y0, y1, q0, q1⟩ := cell_rowA HX5.out (i * 2) HLi.out
      refine wpAnyD_one (i := 10) (by kernel_rfl) rfl (fun K hK => ?_)
      go_simp
      have HS5 : ∀ a b : Value, RdW ((w4.setCell ⟨w.heap.size, i * 2, none⟩ a).setCell ⟨w.heap.size, i * 2 + 1, none⟩ b) wr.heap.size N V := fun a b => ⟨by rw [set_other _ _ _ _ (by have := HG.out; omega)]; exact hS4.a0, by rw [set_other _ _ _ _ (by have := HG.out; omega)]; exact hS4.a1⟩
      refine hK _ _ ⟨fun _ => HS5 _ _, ?_⟩
      clear hK K hS4 y0 y1 q0 q1
      refine late_done (by kernel_rfl) ?_ _
      refine NoPanic.normal ?_
      go_wp2
      go_roundg (n - (i + 1) + 1)
      case measure => omega
      case rel =>
        refine ⟨i + 1, by go_num, by omega, rfl, ?_, ?_⟩
        · rw [put_two HX5.out, ← HNN.out, ← HVV.out, rowA_next _ _ _ _ HLi.out, HY.out]
        · refine Below.setCell (Below.setCell HB4.out (Nat.le_refl _) _) (Nat.le_refl _) _
    · obtain rfl : i = n := by omega
      have hltI : ¬ (i : Int) < (i : Int) := by omega
      have HT := hid (show fs.take i = fs from List.take_of_length_le (by rw [HN.out]; exact Nat.le_refl _))
      clear hlt
      go_wp2
      go_ret
      refine ⟨rfl, ?_, HB.out⟩
      have h9 := HX.out
      rw [HT.out, Nat.sub_self, show rowA fs 0 = fldC fs from by unfold rowA; simp [fldC]] at h9
      exact h9
set_option maxRecDepth 20000 in
set_option maxHeartbeats 8000000 in
theorem without_any (fs : List (B × B)) (p : Option Addr) (n c : Nat) (hn : fs.length = n) (gc : Nat) (nm : ByteArray) (w : World) (hF : FAt w p fs) (hsz : szW fs) (hnm : nm.size ≤ 140737488351232) (hnn : n ≤ 4398046511104) (hg : w.cell? ⟨gc, 0, none⟩ = some (.string nm)) :
    Calls Tryz.prog 76 #[.slice p n c, nameV gc] w fun e w' => ∃ v, e = .returned v ∧ OwnF w' w.heap.size v (fs.filter (fun f => !isF nm f)) ∧ Below w.heap.size w w' := by
  obtain ⟨i0, hi0, hz0, hz1, hz2⟩ := info_parts infoF
  have HF := hid hF
  have HN := hid hn
  have HZ := hid hsz
  have HG := hid hg
  clear hF hn hsz hg
  go_enter Tryz.func76, Tryz.ntmps76
  go_wp2
  go_loopg [5, 10] (n + 1) (fun gk s5 s10 wr => ∃ (i : Nat) (q : Option Addr) (m d : Nat), s5 = .slice q m d ∧ s10 = .int .i64 (i : Int) ∧ i ≤ n ∧ gk = n - i + 1 ∧ m = ((fs.take i).filter (fun f => !isF nm f)).length ∧ OwnF wr w.heap.size (.slice q m d) ((fs.take i).filter (fun f => !isF nm f)) ∧ Below w.heap.size w wr)
  case atStart => exact ⟨0, none, 0, 0, rfl, rfl, by omega, rfl, rfl, OwnF.nil _ _, Below.refl _ _⟩
  case round =>
    obtain ⟨i, q, m, d, rfl, rfl, hin, rfl, hm, ho, hb⟩ := hrel
    rename World => wr
    have hmi : m ≤ i := by rw [hm]; exact Nat.le_trans (List.length_filter_le _ _) (by rw [List.length_take]; omega)
    have HB := hid hb
    have HO := hid ho
    have HM := hid hm
    clear hb ho hm
    by_cases hlt : i < n
    · obtain ⟨f, hf⟩ : ∃ f, fs[i]? = some f := ⟨fs[i]'(by rw [HN.out]; exact hlt), List.getElem?_eq_getElem (by rw [HN.out]; exact hlt)⟩
      obtain ⟨g, o, hp, c0, c1⟩ := (HF.out.next HB.out) i f hf
      subst hp
      have hltI : (i : Int) < (n : Int) := by omega
      obtain ⟨z1, z2⟩ := HZ.out f (List.mem_of_getElem? hf)
      have HIs := hid (is_any gc nm (str f.1) (str f.2) (wr.alloc (.cells #[.string (str f.1), .string (str f.2)] 88 (0, 0))) (cell_keep (below_out HB.out (below_new _ _)) HG.out) (by rw [str_size]; exact z1) hnm)
      have HYt := hid (show isF nm f = true → (fs.take (i + 1)).filter (fun f => !isF nm f) = (fs.take i).filter (fun f => !isF nm f) from fun h => by rw [List.take_add_one, hf, List.filter_append]; simp [h])
      have HYf := hid (show isF nm f = false → (fs.take (i + 1)).filter (fun f => !isF nm f) = (fs.take i).filter (fun f => !isF nm f) ++ [f] from fun h => by rw [List.take_add_one, hf, List.filter_append]; simp [h])
      obtain ⟨S, hS⟩ : ∃ S, sameB (str f.1) nm = S := ⟨_, rfl⟩
      rw [hS] at HIs
      rw [show isF nm f = S from hS] at HYt HYf
      obtain ⟨N, hN⟩ : ∃ N, str f.1 = N := ⟨_, rfl⟩
      obtain ⟨V, hV⟩ : ∃ V, str f.2 = V := ⟨_, rfl⟩
      have HNN := hid hN
      have HVV := hid hV
      rw [hN] at c0 HIs
      rw [hV] at c1 HIs
      clear hf hS hN hV z1 z2
      cases S with
      | true =>
        have HY := hid (HYt.out rfl)
        go_wp2_with (go_at_call 117; (with_reducible refine HIs.out.mono ?_); rintro e w2 ⟨rfl, hb⟩; have hbx := below_new wr (.cells #[.string N, .string V] 88 (0, 0)); have HB2 := hid (below_out (below_out HB.out hbx) hb); have HO2 := hid ((HO.out.keep hbx).keep hb); clear hb hbx HIs)
        go_roundg (n - (i + 1) + 1)
        case measure => omega
        case rel => exact ⟨i + 1, q, m, d, rfl, by go_num, by omega, rfl, (by rw [HY.out]; exact HM.out), (by rw [HY.out]; exact HO2.out), HB2.out⟩
      | false =>
        have HY := hid (HYf.out rfl)
        go_wp2_with (first | (go_at_call 117; (with_reducible refine HIs.out.mono ?_); rintro e w2 ⟨rfl, hb⟩; have hbx := below_new wr (.cells #[.string N, .string V] 88 (0, 0)); have HB2 := hid (below_out (below_out HB.out hbx) hb); have HO2 := hid ((HO.out.keep hbx).keep hb); obtain ⟨y0, y1⟩ := box2W ((hb.block _ (lt_of_heap (heap_alloc_new wr (.cells #[.string N, .string V] 88 (0, 0))))).trans (heap_alloc_new wr (.cells #[.string N, .string V] 88 (0, 0)))); clear hb hbx HIs) | (at_builtin; refine wpList_append_own_at _ rfl (.tmp 18) (.tmp 20) 33 rfl w.heap.size 88 i0 _ 2 32 Tryz.underlying33 hi0 hz0 hz1 hz2 rfl (by decide) (.slice q m d) m (fldC ((fs.take i).filter (fun f => !isF nm f))) (by go_simp) (by have h9 := HO2.out.alloc (.cells #[.string N, .string V] 88 (0, 0)); unfold OwnF at h9; rw [← HM.out] at h9; exact h9) ⟨w2.heap.size, 0, none⟩ 1 1 [.string N, .string V] (by go_simp) rfl (cells_new w2 _ _) (by simp [Value.oneCell']) (by unfold maxLen; omega) (by omega) (Nat.le_trans HB2.out.size (below_new _ _).size) ?_; intro v' w4 hown' hgrow _ _; have HB4 := hid (app_belowL HB2.out HO2.out hgrow); obtain ⟨q', d', rfl⟩ := own_slice hown'; have HO4 := hid hown'; clear hown' hgrow))
        go_roundg (n - (i + 1) + 1)
        case measure => omega
        case rel => exact ⟨i + 1, q', m + 1, d', rfl, by go_num, by omega, rfl, (by rw [HY.out, List.length_append, ← HM.out]; rfl), (by rw [HY.out]; unfold OwnF; rw [fldC_app, List.length_append, ← HM.out, show fldC [f] = [.string N, .string V] from by rw [← HNN.out, ← HVV.out]; rfl]; exact HO4.out), HB4.out⟩
    · obtain rfl : i = n := by omega
      have hltI : ¬ (i : Int) < (i : Int) := by omega
      have HT := hid (show fs.take i = fs from List.take_of_length_le (by rw [HN.out]; exact Nat.le_refl _))
      clear hlt
      go_wp2
      go_ret
      exact ⟨_, rfl, by have h9 := HO.out; rw [HT.out] at h9; exact h9, HB.out⟩
end Go.Proofs.YtnlmjlfoeodleaaGreatDoor
