/- The first value of a name, on both sides: the closure that tells a name, the place of the first field that has it. -/
import Derived.Test.YtnlmjlfoeodleaaDoorCSame
import Derived.Test.YtnlmjlfoeodleaaDoorHFine
import Derived.Test.YtnlmjlfoeodleaaDoorCTrim
namespace Go.Proofs.YtnlmjlfoeodleaaDoor
open Go.RowKit

def szW (fs : List (B × B)) : Prop := ∀ f ∈ fs, f.1.length ≤ 140737488351232 ∧ f.2.length ≤ 140737488351232
/-- Whether a field has the name. -/
def isF (nm : ByteArray) (f : B × B) : Bool := sameB (str f.1) nm
def getB (fs : List (B × B)) (nm : ByteArray) : ByteArray × Bool := match fs.find? (isF nm) with
  | some f => (str f.2, true)
  | none => (⟨#[]⟩, false)
/-- The first i fields have not the name. -/
def noneTo (fs : List (B × B)) (nm : ByteArray) (i : Nat) : Prop := ∀ f ∈ fs.take i, isF nm f = false
theorem noneTo_next {fs : List (B × B)} {nm : ByteArray} {i : Nat} {f : B × B} (h : noneTo fs nm i) (hf : fs[i]? = some f) (hn : isF nm f = false) : noneTo fs nm (i + 1) := by
  intro g hg
  rw [List.take_add_one, hf] at hg
  rcases List.mem_append.1 hg with h1 | h1
  · exact h g h1
  · simp at h1; rw [h1]; exact hn
theorem findF_none {fs : List (B × B)} {nm : ByteArray} {n : Nat} (hn : fs.length = n) (h : noneTo fs nm n) : fs.find? (isF nm) = none := by
  rw [List.find?_eq_none]
  intro f hf
  have := h f (by rw [List.take_of_length_le (by omega)]; exact hf)
  rw [this]; decide
theorem findF_at : ∀ {fs : List (B × B)} {nm : ByteArray} {i : Nat} {f : B × B}, noneTo fs nm i → fs[i]? = some f → isF nm f = true → fs.find? (isF nm) = some f
  | [], _, i, f, _, h, _ => by simp at h
  | x :: l, nm, 0, f, _, h, hf => by
    simp at h
    subst h
    rw [List.find?_cons_of_pos hf]
  | x :: l, nm, i + 1, f, hn, h, hf => by
    have hx : isF nm x = false := hn x (by simp)
    rw [List.find?_cons_of_neg (by rw [hx]; decide)]
    exact findF_at (i := i) (fun g hg => hn g (by simp [hg])) (by simpa using h) hf
/-- The place of the first field that has the name, or -1. -/
def idxI (fs : List (B × B)) (nm : ByteArray) (I : Int) : Prop := (I = -1 ∧ noneTo fs nm fs.length) ∨ ∃ (i : Nat) (f : B × B), I = (i : Int) ∧ noneTo fs nm i ∧ fs[i]? = some f ∧ isF nm f = true
theorem mem_takeF {fs : List (B × B)} {i j : Nat} {f : B × B} (h : fs[i]? = some f) (hij : i < j) : f ∈ fs.take j := by
  refine List.mem_of_getElem? (i := i) ?_
  rw [List.getElem?_take, if_pos hij]
  exact h
theorem idx_yes {fs : List (B × B)} {nm : ByteArray} {I : Int} {i : Nat} {f : B × B} (h : idxI fs nm I) (hn : noneTo fs nm i) (hf : fs[i]? = some f) (hs : isF nm f = true) : I = (i : Int) := by
  have hlt := (List.getElem?_eq_some_iff.1 hf).1
  rcases h with ⟨_, h1⟩ | ⟨j, g, rfl, h1, h2, h3⟩
  · have := h1 f (mem_takeF hf hlt)
    rw [hs] at this; cases this
  · rcases Nat.lt_trichotomy i j with h4 | h4 | h4
    · have := h1 f (mem_takeF hf h4)
      rw [hs] at this; cases this
    · rw [h4]
    · have := hn g (mem_takeF h2 h4)
      rw [h3] at this; cases this
theorem idx_no {fs : List (B × B)} {nm : ByteArray} {I : Int} (h : idxI fs nm I) (hn : ¬ ∃ (i : Nat) (f : B × B), noneTo fs nm i ∧ fs[i]? = some f ∧ isF nm f = true) : I = -1 ∧ noneTo fs nm fs.length := by
  rcases h with h | ⟨j, g, rfl, h1, h2, h3⟩
  · exact h
  · exact absurd ⟨j, g, h1, h2, h3⟩ hn
theorem idx_all (fs : List (B × B)) (nm : ByteArray) (hn : ¬ ∃ (i : Nat) (f : B × B), noneTo fs nm i ∧ fs[i]? = some f ∧ isF nm f = true) : ∀ i, i ≤ fs.length → noneTo fs nm i
  | 0, _ => fun f hf => by simp at hf
  | i + 1, h => by
    have ih := idx_all fs nm hn i (by omega)
    have hf : fs[i]? = some (fs[i]'(by omega)) := List.getElem?_eq_getElem _
    refine noneTo_next ih hf ?_
    cases hs : isF nm (fs[i]'(by omega)) with
    | false => rfl
    | true => exact absurd ⟨i, _, ih, hf, hs⟩ hn
theorem same_belW (a b : ByteArray) (w : World) (ha : a.size ≤ 140737488351232) (hb : b.size ≤ 140737488351232) : Calls Tryd.prog 40 #[.string a, .string b] w fun e w' => e = .returned (.bool (sameB a b)) ∧ Below w.heap.size w w' :=
  (same_any a b w (Nat.le_trans ha (by decide)) (Nat.le_trans hb (by decide))).mono (fun e w' ⟨h1, m, h2⟩ => ⟨h1, by rw [h2]; exact below_drew (Below.refl _ _) m⟩)
/-- The closure of a name. -/
abbrev nameV (g : Nat) : Value := .func (.func 60) #[] #[.pointer (some ⟨g, 0, none⟩)]
set_option maxRecDepth 20000 in
set_option maxHeartbeats 4000000 in
theorem named_any (nm : ByteArray) (w : World) : Calls Tryd.prog 47 #[.string nm] w fun e w' => e = .returned (nameV w.heap.size) ∧ w' = w.alloc (.cells #[.string nm] 9 (0, 0)) := by
  go_enter Tryd.func47, Tryd.ntmps47
  go_wp2
  go_ret
  exact ⟨rfl, rfl⟩
set_option maxRecDepth 20000 in
set_option maxHeartbeats 4000000 in
theorem is_any (g : Nat) (nm N V : ByteArray) (w : World) (hg : w.cell? ⟨g, 0, none⟩ = some (.string nm)) (hN : N.size ≤ 140737488351232) (hnm : nm.size ≤ 140737488351232) :
    Calls Tryd.prog 60 #[.agg #[.string N, .string V], .pointer (some ⟨g, 0, none⟩)] w fun e w' => e = .returned (.bool (sameB N nm)) ∧ Below w.heap.size w w' := by
  have HS := hid (show ∀ W : World, _ from fun W => same_belW N nm W hN hnm)
  have HB0 := hid (below_new w (.cells #[.string N, .string V] 41 (0, 0)))
  have hg2 := cell_keep HB0.out hg
  clear hg
  go_enter Tryd.func60, Tryd.ntmps60
  go_wp2_with (go_at_call 40; (with_reducible refine (HS.out _).mono ?_); rintro e w1 ⟨rfl, hb⟩; have HB1 := hid (below_out HB0.out hb); clear hb HS)
  go_ret
  exact ⟨rfl, HB1.out⟩
set_option maxRecDepth 20000 in
set_option maxHeartbeats 8000000 in
theorem indexf_any (fs : List (B × B)) (p : Option Addr) (n c : Nat) (hn : fs.length = n) (g : Nat) (nm : ByteArray) (w : World) (hF : FAt w p fs) (hsz : szW fs) (hnm : nm.size ≤ 140737488351232) (hnn : n ≤ 140737488351232) (hg : w.cell? ⟨g, 0, none⟩ = some (.string nm)) :
    Calls Tryd.prog 51 #[.slice p n c, nameV g] w fun e w' => ∃ I, e = .returned (.int .i64 I) ∧ idxI fs nm I ∧ Below w.heap.size w w' := by
  have HF := hid hF
  have HN := hid hn
  have HZ := hid hsz
  have HG := hid hg
  clear hF hn hsz hg
  go_enter Tryd.func51, Tryd.ntmps51
  go_wp2
  go_loopg [8] (n + 1) (fun gk s8 wr => ∃ i : Nat, s8 = .int .i64 (i : Int) ∧ i ≤ n ∧ gk = n - i + 1 ∧ noneTo fs nm i ∧ Below w.heap.size w wr)
  case atStart => exact ⟨0, rfl, by omega, rfl, fun f hf => by simp at hf, Below.refl _ _⟩
  case round =>
    obtain ⟨i, rfl, hin, rfl, hno, hb⟩ := hrel
    rename World => wr
    have HB := hid hb
    have HO := hid hno
    clear hb hno
    by_cases hlt : i < n
    · obtain ⟨f, hf⟩ : ∃ f, fs[i]? = some f := ⟨fs[i]'(by rw [HN.out]; exact hlt), List.getElem?_eq_getElem (by rw [HN.out]; exact hlt)⟩
      obtain ⟨gg, o, hp, c0, c1⟩ := (HF.out.next HB.out) i f hf
      subst hp
      have hltI : (i : Int) < (n : Int) := by omega
      obtain ⟨z1, z2⟩ := HZ.out f (List.mem_of_getElem? hf)
      have HI := hid (is_any g nm (str f.1) (str f.2) wr (cell_keep HB.out HG.out) (by rw [str_size]; exact z1) hnm)
      have HFi := hid hf
      obtain ⟨N, hN⟩ : ∃ N, str f.1 = N := ⟨_, rfl⟩
      obtain ⟨V, hV⟩ : ∃ V, str f.2 = V := ⟨_, rfl⟩
      have hs : isF nm f = sameB N nm := by unfold isF; rw [hN]
      rw [hN] at c0
      rw [hV] at c1
      rw [hN, hV] at HI
      obtain ⟨S, hS⟩ : ∃ S, sameB N nm = S := ⟨_, rfl⟩
      rw [hS] at HI hs
      have HS := hid hs
      clear hf hN hV hs hS z1 z2
      cases S with
      | true =>
        go_wp2_with (go_at_call 60; (with_reducible refine HI.out.mono ?_); rintro e w2 ⟨rfl, hb⟩; have HB2 := hid (below_out HB.out hb); clear hb HI)
        (try simp only [Exit.inBlock, Exit.then])
        go_ret
        exact ⟨(i : Int), rfl, .inr ⟨i, f, rfl, HO.out, HFi.out, HS.out⟩, HB2.out⟩
      | false =>
        have HX := hid (noneTo_next HO.out HFi.out HS.out)
        go_wp2_with (go_at_call 60; (with_reducible refine HI.out.mono ?_); rintro e w2 ⟨rfl, hb⟩; have HB2 := hid (below_out HB.out hb); clear hb HI)
        go_roundg (n - (i + 1) + 1)
        case measure => omega
        case rel => exact ⟨i + 1, by go_num, by omega, rfl, HX.out, HB2.out⟩
    · obtain rfl : i = n := by omega
      have hltI : ¬ (i : Int) < (i : Int) := by omega
      clear hlt
      go_wp2
      go_ret
      exact ⟨-1, rfl, .inl ⟨rfl, by rw [HN.out]; exact HO.out⟩, HB.out⟩
set_option maxRecDepth 20000 in
set_option maxHeartbeats 8000000 in
theorem pget (fs : List (B × B)) (p : Option Addr) (n c : Nat) (hn : fs.length = n) (nm : ByteArray) (w : World) (hF : FAt w p fs) (hsz : szW fs) (hnm : nm.size ≤ 140737488351232) (hnn : n ≤ 140737488351232) :
    Calls Tryd.prog 33 #[.slice p n c, .string nm] w fun e w' => e = .returned (.tuple #[.string (getB fs nm).1, .bool (getB fs nm).2]) ∧ Below w.heap.size w w' := by
  have HNa := hid (show ∀ W : World, _ from fun W => named_any nm W)
  have HB0 := hid (below_new w (.cells #[.string nm] 9 (0, 0)))
  have hc0 : (w.alloc (.cells #[.string nm] 9 (0, 0))).cell? ⟨w.heap.size, 0, none⟩ = some (.string nm) := by simp only [World.cell?, heap_alloc_new w (.cells #[.string nm] 9 (0, 0))]; rfl
  have HIx := hid (indexf_any fs p n c hn w.heap.size nm (w.alloc (.cells #[.string nm] 9 (0, 0))) (hF.next HB0.out) hsz hnm hnn hc0)
  have HF := hid hF
  have HZ := hid hsz
  have HN := hid hn
  clear hF hsz hn hc0
  by_cases hex : ∃ (i : Nat) (f : B × B), noneTo fs nm i ∧ fs[i]? = some f ∧ isF nm f = true
  · obtain ⟨i, f, hno, hf, his⟩ := hex
    have hlt : i < n := by rw [← HN.out]; exact (List.getElem?_eq_some_iff.1 hf).1
    obtain ⟨z1, z2⟩ := HZ.out f (List.mem_of_getElem? hf)
    obtain ⟨gg, o, hp, c0, c1⟩ := HF.out i f hf
    subst hp
    have HX := hid (show getB fs nm = (str f.2, true) from by unfold getB; rw [findF_at hno hf his])
    rw [HX.out]
    have HYs := hid (show ∀ I, idxI fs nm I → I = (i : Int) from fun I h => idx_yes h hno hf his)
    have HCl := hid (show ∀ W : World, _ from fun W => clone_any (str f.2) W (by rw [str_size]; omega))
    have HC1 := hid c1
    obtain ⟨V, hV⟩ : ∃ V, str f.2 = V := ⟨_, rfl⟩
    rw [hV] at HCl HC1 ⊢
    clear hno hf his z1 z2 hV c0 c1 HX
    go_enter Tryd.func33, Tryd.ntmps33
    go_wp2_with (first | (go_at_call 47; (with_reducible refine (HNa.out _).mono ?_); rintro e w1 ⟨rfl, hw1⟩; subst w1; clear HNa) | (go_at_call 51; (with_reducible refine HIx.out.mono ?_); rintro e w2 ⟨I, rfl, hI, hb⟩; have HB2 := hid (below_out HB0.out hb); obtain rfl := HYs.out I hI; have k1 := cell_keep HB2.out HC1.out; clear hb HIx) | (go_at_call 26; (with_reducible refine (HCl.out _).mono ?_); rintro e w3 ⟨rfl, hb⟩; have HB3 := hid (below_out HB2.out hb); clear hb HCl))
    go_ret2
    exact ⟨rfl, HB3.out⟩
  · have HX := hid (show getB fs nm = (⟨#[]⟩, false) from by unfold getB; rw [findF_none HN.out (by rw [← HN.out]; exact idx_all fs nm hex _ (Nat.le_refl _))])
    rw [HX.out]
    have HNo := hid (show ∀ I, idxI fs nm I → I = -1 from fun I h => (idx_no h hex).1)
    clear hex HX
    go_enter Tryd.func33, Tryd.ntmps33
    go_wp2_with (first | (go_at_call 47; (with_reducible refine (HNa.out _).mono ?_); rintro e w1 ⟨rfl, hw1⟩; subst w1; clear HNa) | (go_at_call 51; (with_reducible refine HIx.out.mono ?_); rintro e w2 ⟨I, rfl, hI, hb⟩; have HB2 := hid (below_out HB0.out hb); obtain rfl := HNo.out I hI; clear hb HIx))
    go_ret2
    exact ⟨rfl, HB2.out⟩
set_option maxRecDepth 20000 in
set_option maxHeartbeats 8000000 in
theorem dget (fs : List (B × B)) (p : Option Addr) (n c : Nat) (hn : fs.length = n) (nm : ByteArray) (w : World) (hF : FAt w p fs) (hsz : szW fs) (hnm : nm.size ≤ 140737488351232) (hnn : n ≤ 140737488351232) :
    Calls Tryd.prog 35 #[.slice p n c, .string nm] w fun e w' => e = .returned (.tuple #[.string (getB fs nm).1, .bool (getB fs nm).2]) ∧ Below w.heap.size w w' := by
  have HF := hid hF
  have HN := hid hn
  have HZ := hid hsz
  obtain ⟨T, hT⟩ : ∃ T, getB fs nm = T := ⟨_, rfl⟩
  rw [hT]
  have HT := hid hT
  clear hF hn hsz hT
  go_enter Tryd.func35, Tryd.ntmps35
  go_wp2
  go_loopg [6] (n + 1) (fun gk s6 wr => ∃ i : Nat, s6 = .int .i64 (i : Int) ∧ i ≤ n ∧ gk = n - i + 1 ∧ noneTo fs nm i ∧ Below w.heap.size w wr)
  case atStart => exact ⟨0, rfl, by omega, rfl, fun f hf => by simp at hf, Below.refl _ _⟩
  case round =>
    obtain ⟨i, rfl, hin, rfl, hno, hb⟩ := hrel
    rename World => wr
    have HB := hid hb
    have HO := hid hno
    clear hb hno
    by_cases hlt : i < n
    · obtain ⟨f, hf⟩ : ∃ f, fs[i]? = some f := ⟨fs[i]'(by rw [HN.out]; exact hlt), List.getElem?_eq_getElem (by rw [HN.out]; exact hlt)⟩
      obtain ⟨gg, o, hp, c0, c1⟩ := (HF.out.next HB.out) i f hf
      subst hp
      have hltI : (i : Int) < (n : Int) := by omega
      obtain ⟨z1, z2⟩ := HZ.out f (List.mem_of_getElem? hf)
      have HI := hid (show ∀ W : World, _ from fun W => rsame_any (str f.1) nm W (by rw [str_size]; exact z1) hnm)
      have HFi := hid hf
      obtain ⟨S, hS⟩ : ∃ S, sameB (str f.1) nm = S := ⟨_, rfl⟩
      have HS := hid (show isF nm f = S from hS)
      rw [hS] at HI
      obtain ⟨N, hN⟩ : ∃ N, str f.1 = N := ⟨_, rfl⟩
      obtain ⟨V, hV⟩ : ∃ V, str f.2 = V := ⟨_, rfl⟩
      have HV := hid hV
      rw [hN] at c0 HI
      rw [hV] at c1
      clear hf hN hV hS z1 z2
      cases S with
      | true =>
        have HX := hid (show T = (V, true) from by rw [← HT.out]; unfold getB; rw [findF_at HO.out HFi.out HS.out, ← HV.out])
        go_wp2_with (go_at_call 19; (with_reducible refine (HI.out _).mono ?_); rintro e w2 ⟨rfl, hb⟩; have HB2 := hid (below_out HB.out hb); have x1 := cell_keep hb c1; clear hb HI)
        (try simp only [Exit.inBlock, Exit.then])
        go_ret2
        exact ⟨by rw [HX.out]; rfl, HB2.out⟩
      | false =>
        have HX := hid (noneTo_next HO.out HFi.out HS.out)
        go_wp2_with (go_at_call 19; (with_reducible refine (HI.out _).mono ?_); rintro e w2 ⟨rfl, hb⟩; have HB2 := hid (below_out HB.out hb); clear hb HI)
        go_roundg (n - (i + 1) + 1)
        case measure => omega
        case rel => exact ⟨i + 1, by go_num, by omega, rfl, HX.out, HB2.out⟩
    · obtain rfl : i = n := by omega
      have hltI : ¬ (i : Int) < (i : Int) := by omega
      have HX := hid (show T = (⟨#[]⟩, false) from by rw [← HT.out]; unfold getB; rw [findF_none HN.out HO.out])
      clear hlt
      go_wp2
      go_ret2
      exact ⟨by rw [HX.out]; rfl, HB.out⟩
end Go.Proofs.YtnlmjlfoeodleaaDoor
