/- Fields with one set, one more, one gone: the document. -/
import Derived.Test.YtnlmjlfoeodleaaGreatDoorOSpec
import Derived.Test.YtnlmjlfoeodleaaGreatDoorODNam
import Derived.Test.YtnlmjlfoeodleaaGreatDoorOrder
namespace Go.Proofs.YtnlmjlfoeodleaaGreatDoor
open Go.RowKit

theorem OwnF.snocW {w : World} {b m : Nat} {v : Value} {A : List (B × B)} {f : B × B} {N V : ByteArray} (hm : m = A.length) (hN : str f.1 = N) (hV : str f.2 = V) (h : w.ownsRow b 88 2 v (m + 1) (fldC A ++ [.string N, .string V])) : OwnF w b v (A ++ [f]) := by
  unfold OwnF
  rw [fldC_app, List.length_append, ← hm, show fldC [f] = [.string N, .string V] from by rw [← hN, ← hV]; rfl]
  exact h
/-- A row of fields is handed back. -/
def ToldF (w : World) (X : List (B × B)) (m : Nat) (e : Ending) (w' : World) : Prop := ∃ q d, e = .returned (.slice q m d) ∧ FAt w' q X ∧ Below w.heap.size w w'
theorem toldF_mk {w w' : World} {X : List (B × B)} {m d : Nat} {q : Option Addr} {e : Ending} (h : e = .returned (.slice q m d)) (hf : FAt w' q X) (hb : Below w.heap.size w w') : ToldF w X m e w' := ⟨q, d, h, hf, hb⟩
theorem fat_nilW {w : World} {fs : List (B × B)} (h : FAt w none fs) : fs = [] := by
  cases fs with
  | nil => rfl
  | cons f l => obtain ⟨g, o, e, _⟩ := h 0 f rfl; cases e
set_option maxRecDepth 20000 in
set_option maxHeartbeats 8000000 in
theorem dadd_some (fs : List (B × B)) (ad : Addr) (n c : Nat) (hn : fs.length = n) (a b : B) (w : World) (hF : FAt w (some ad) fs) (hnn : n + 1 ≤ 4398046511104) :
    Calls Tryz.prog 53 #[.slice (some ad) n c, .string (str a), .string (str b)] w fun e w' => ToldF w (fs ++ [(a, b)]) (n + 1) e w' := by
  obtain ⟨i0, hi0, hz0, hz1, hz2⟩ := info_parts infoF
  obtain ⟨N, hN⟩ : ∃ N, str a = N := ⟨_, rfl⟩
  obtain ⟨V, hV⟩ : ∃ V, str b = V := ⟨_, rfl⟩
  rw [hN, hV]
  have HNN := hid hN
  have HVV := hid hV
  have HL := hid hn
  have HNw := hid hF.newsW
  clear hF hn hN hV
  go_enter Tryz.func53, Tryz.ntmps53
  go_wp2_with (first | (at_builtin; refine wpList_append_own_at w rfl (.tmp 8) (.tmp 9) 33 rfl w.heap.size 88 i0 _ 2 32 Tryz.underlying33 hi0 hz0 hz1 hz2 rfl (by decide) (.slice none 0 0) 0 [] (by go_simp) (OwnF.nil _ _) ad n c (fldC fs) (by go_simp) (by rw [fldC_len, HL.out]) HNw.out (fldC_oneW fs) (by unfold maxLen; omega) (by omega) (Nat.le_refl _) ?_; intro v' w1 hown hgr _ _; rw [Nat.zero_add, List.nil_append] at hown; obtain ⟨q, d, rfl⟩ := own_slice hown; have HO := hid (show OwnF w1 w.heap.size (.slice q n d) fs from by unfold OwnF; rw [HL.out]; exact hown); have HB := hid (below_grown hgr); clear hown hgr HNw) | (at_builtin; refine wpList_append_own_at _ rfl (.tmp 11) (.tmp 15) 33 rfl w.heap.size 88 i0 _ 2 32 Tryz.underlying33 hi0 hz0 hz1 hz2 rfl (by decide) (.slice q n d) n (fldC fs) (by go_simp) (by have h9 := HO.out.alloc (.cells #[.string N, .string V] 88 (0, 0)); unfold OwnF at h9; rw [HL.out] at h9; exact h9) ⟨w1.heap.size, 0, none⟩ 1 1 [.string N, .string V] (by go_simp) rfl (cells_new w1 _ _) (by simp [Value.oneCell']) (by unfold maxLen; omega) (by omega) (Nat.le_trans HB.out.size (below_new _ _).size) ?_; intro v' w9 hown hgr _ _; obtain ⟨q9, d9, rfl⟩ := own_slice hown; have HB9 := hid (app_belowL HB.out HO.out hgr); have HF9 := hid (OwnF.fat (show OwnF w9 w.heap.size (.slice q9 (n + 1) d9) (fs ++ [(a, b)]) from OwnF.snocW (f := (a, b)) HL.out.symm HNN.out HVV.out hown)); clear hown hgr))
  go_ret
  exact toldF_mk rfl HF9.out HB9.out
set_option maxRecDepth 20000 in
set_option maxHeartbeats 8000000 in
theorem dadd_none (fs : List (B × B)) (n c : Nat) (hn : fs.length = n) (a b : B) (w : World) (hF : FAt w none fs) (hc0 : c = 0) (hnn : n + 1 ≤ 4398046511104) :
    Calls Tryz.prog 53 #[.slice none n c, .string (str a), .string (str b)] w fun e w' => ToldF w (fs ++ [(a, b)]) (n + 1) e w' := by
  obtain ⟨i0, hi0, hz0, hz1, hz2⟩ := info_parts infoF
  obtain ⟨N, hN⟩ : ∃ N, str a = N := ⟨_, rfl⟩
  obtain ⟨V, hV⟩ : ∃ V, str b = V := ⟨_, rfl⟩
  rw [hN, hV]
  have HNN := hid hN
  have HVV := hid hV
  have HL := hid hn
  obtain rfl := fat_nilW hF
  obtain rfl : n = 0 := hn.symm
  obtain rfl : c = 0 := hc0
  have HC := hid trivial
  have HO := hid (OwnF.nil w w.heap.size)
  have HB := hid (Below.refl w.heap.size w)
  clear hF hn hN hV
  go_enter Tryz.func53, Tryz.ntmps53
  go_wp2_with (first | (at_builtin; refine wpList_append_own_none rfl (.tmp 8) (.tmp 9) 33 rfl w.heap.size 88 i0 2 Tryz.underlying33 hi0 (.slice none 0 0) 0 [] (by go_simp) (OwnF.nil _ _) (by have := HC.out; go_simp) ?_; clear HC) | (at_builtin; refine wpList_append_own_at _ rfl (.tmp 11) (.tmp 15) 33 rfl w.heap.size 88 i0 _ 2 32 Tryz.underlying33 hi0 hz0 hz1 hz2 rfl (by decide) (.slice none 0 0) 0 (fldC []) (by go_simp) (by have h9 := HO.out.alloc (.cells #[.string N, .string V] 88 (0, 0)); unfold OwnF at h9; exact h9) ⟨w.heap.size, 0, none⟩ 1 1 [.string N, .string V] (by go_simp) rfl (cells_new w _ _) (by simp [Value.oneCell']) (by unfold maxLen; omega) (by omega) (Nat.le_trans HB.out.size (below_new _ _).size) ?_; intro v' w9 hown hgr _ _; obtain ⟨q9, d9, rfl⟩ := own_slice hown; have HB9 := hid (app_belowL HB.out HO.out hgr); have HF9 := hid (OwnF.fat (show OwnF w9 w.heap.size (.slice q9 (0 + 1) d9) ([] ++ [(a, b)]) from OwnF.snocW (f := (a, b)) HL.out.symm HNN.out HVV.out hown)); clear hown hgr))
  go_ret
  exact toldF_mk rfl HF9.out HB9.out
theorem dadd (fs : List (B × B)) (p : Option Addr) (n c : Nat) (hn : fs.length = n) (a b : B) (w : World) (hF : FAt w p fs) (hc0 : p = none → c = 0) (hnn : n + 1 ≤ 4398046511104) :
    Calls Tryz.prog 53 #[.slice p n c, .string (str a), .string (str b)] w fun e w' => ToldF w (fs ++ [(a, b)]) (n + 1) e w' := by
  cases p with
  | none => exact dadd_none fs n c hn a b w hF (hc0 rfl) hnn
  | some ad => exact dadd_some fs ad n c hn a b w hF hnn
theorem setR_no {nm : ByteArray} {x f : B × B} {d : Bool} {l : List (B × B)} (h : isF nm f = false) : setR nm x d (f :: l) = f :: setR nm x d l := by
  rw [setR, if_neg (by rw [h]; decide)]
theorem setR_skip {nm : ByteArray} {x f : B × B} {l : List (B × B)} (h : isF nm f = true) : setR nm x true (f :: l) = setR nm x true l := by
  rw [setR, if_pos h, if_pos rfl]
theorem setR_put {nm : ByteArray} {x f : B × B} {l : List (B × B)} (h : isF nm f = true) : setR nm x false (f :: l) = x :: setR nm x true l := by
  rw [setR, if_pos h, if_neg (by decide)]
theorem setR_len (nm : ByteArray) (x : B × B) : ∀ (l : List (B × B)) (d : Bool), (setR nm x d l).length ≤ l.length
  | [], d => by simp [setR]
  | f :: l, d => by
    unfold setR
    have h1 := setR_len nm x l d
    have h2 := setR_len nm x l true
    split
    · split
      · simp only [List.length_cons]; omega
      · simp only [List.length_cons]; omega
    · simp only [List.length_cons]; omega
end Go.Proofs.YtnlmjlfoeodleaaGreatDoor
/- What goes further, on both sides. -/
namespace Go.Proofs.YtnlmjlfoeodleaaGreatDoor
open Go.RowKit Go.Maps

theorem end_hop {ns : List B} {nm x : B} (h : lowB nm = x) (hx : hopB x = true) : endB ns nm = false := by
  unfold endB
  rw [h, if_pos hx]
theorem end_host {ns : List B} {nm : B} (h : lowB nm = hostB) : endB ns nm = true := by
  unfold endB
  rw [h, if_neg (by decide), if_pos rfl]
theorem end_else {ns : List B} {nm x : B} (h : lowB nm = x) (h1 : hopB x = false) (h2 : x ≠ hostB) : endB ns nm = !ns.contains x := by
  unfold endB
  rw [h, if_neg (by rw [h1]; decide), if_neg h2]
theorem beq_ne {a b : B} (h : a ≠ b) : (a == b) = false := by simpa using h
theorem tl_ne {S : ByteArray} {x c : B} (hS : str x = S) (h : x ≠ c) : (S.toList == (str c).toList) = false ∧ (S.toList == c) = false := by
  subst hS
  have e : ∀ l : B, (str l).toList = l := fun l => str_tl l
  exact ⟨by rw [e, e]; exact beq_ne h, by rw [e]; exact beq_ne h⟩
set_option maxRecDepth 20000 in
set_option maxHeartbeats 8000000 in
theorem pend (nm : B) (ns : List B) (m : Nat) (w : World) (hp : PlAt w m ns) (hz : nm.length ≤ 1048576) :
    Calls Tryz.prog 74 #[.string (str nm), .map (some m)] w fun e w' => e = .returned (.bool (endB ns nm)) ∧ Below w.heap.size w w' := by
  have HP := hid hp
  have HLo := hid (show ∀ W : World, _ from fun W => lower_bel nm W hz)
  obtain ⟨x, hx⟩ : ∃ x, lowB nm = x := ⟨_, rfl⟩
  have hxl : x.length ≤ 1048576 := by rw [← hx, lowB_len]; exact hz
  rw [hx] at HLo
  clear hp
  by_cases h0 : x = [99, 111, 110, 110, 101, 99, 116, 105, 111, 110]
  · have HE := hid (show endB ns nm = false from end_hop (hx.trans h0) (by decide))
    rw [HE.out]
    rw [h0] at HLo
    have HL2 := hid (show ∀ W : World, Calls Tryz.prog 116 #[.string (str nm)] W fun e w' => e = .returned (.string (⟨#[99, 111, 110, 110, 101, 99, 116, 105, 111, 110]⟩ : ByteArray)) ∧ Below W.heap.size W w' from HLo.out)
    clear hx hxl HE HLo h0
    go_enter Tryz.func74, Tryz.ntmps74
    go_wp2_with (go_at_call 116; (with_reducible refine (HL2.out _).mono ?_); rintro e w1 ⟨rfl, hb⟩; have HB := hid hb; clear hb HL2)
    go_ret
    exact ⟨rfl, HB.out⟩
  by_cases h1 : x = [107, 101, 101, 112, 45, 97, 108, 105, 118, 101]
  · have HE := hid (show endB ns nm = false from end_hop (hx.trans h1) (by decide))
    rw [HE.out]
    rw [h1] at HLo
    have HL2 := hid (show ∀ W : World, Calls Tryz.prog 116 #[.string (str nm)] W fun e w' => e = .returned (.string (⟨#[107, 101, 101, 112, 45, 97, 108, 105, 118, 101]⟩ : ByteArray)) ∧ Below W.heap.size W w' from HLo.out)
    clear hx hxl HE HLo h0 h1
    go_enter Tryz.func74, Tryz.ntmps74
    go_wp2_with (go_at_call 116; (with_reducible refine (HL2.out _).mono ?_); rintro e w1 ⟨rfl, hb⟩; have HB := hid hb; clear hb HL2)
    go_ret
    exact ⟨rfl, HB.out⟩
  by_cases h2 : x = [117, 112, 103, 114, 97, 100, 101]
  · have HE := hid (show endB ns nm = false from end_hop (hx.trans h2) (by decide))
    rw [HE.out]
    rw [h2] at HLo
    have HL2 := hid (show ∀ W : World, Calls Tryz.prog 116 #[.string (str nm)] W fun e w' => e = .returned (.string (⟨#[117, 112, 103, 114, 97, 100, 101]⟩ : ByteArray)) ∧ Below W.heap.size W w' from HLo.out)
    clear hx hxl HE HLo h0 h1 h2
    go_enter Tryz.func74, Tryz.ntmps74
    go_wp2_with (go_at_call 116; (with_reducible refine (HL2.out _).mono ?_); rintro e w1 ⟨rfl, hb⟩; have HB := hid hb; clear hb HL2)
    go_ret
    exact ⟨rfl, HB.out⟩
  by_cases h3 : x = [112, 114, 111, 120, 121, 45, 99, 111, 110, 110, 101, 99, 116, 105, 111, 110]
  · have HE := hid (show endB ns nm = false from end_hop (hx.trans h3) (by decide))
    rw [HE.out]
    rw [h3] at HLo
    have HL2 := hid (show ∀ W : World, Calls Tryz.prog 116 #[.string (str nm)] W fun e w' => e = .returned (.string (⟨#[112, 114, 111, 120, 121, 45, 99, 111, 110, 110, 101, 99, 116, 105, 111, 110]⟩ : ByteArray)) ∧ Below W.heap.size W w' from HLo.out)
    clear hx hxl HE HLo h0 h1 h2 h3
    go_enter Tryz.func74, Tryz.ntmps74
    go_wp2_with (go_at_call 116; (with_reducible refine (HL2.out _).mono ?_); rintro e w1 ⟨rfl, hb⟩; have HB := hid hb; clear hb HL2)
    go_ret
    exact ⟨rfl, HB.out⟩
  by_cases h4 : x = [112, 114, 111, 120, 121, 45, 97, 117, 116, 104, 101, 110, 116, 105, 99, 97, 116, 101]
  · have HE := hid (show endB ns nm = false from end_hop (hx.trans h4) (by decide))
    rw [HE.out]
    rw [h4] at HLo
    have HL2 := hid (show ∀ W : World, Calls Tryz.prog 116 #[.string (str nm)] W fun e w' => e = .returned (.string (⟨#[112, 114, 111, 120, 121, 45, 97, 117, 116, 104, 101, 110, 116, 105, 99, 97, 116, 101]⟩ : ByteArray)) ∧ Below W.heap.size W w' from HLo.out)
    clear hx hxl HE HLo h0 h1 h2 h3 h4
    go_enter Tryz.func74, Tryz.ntmps74
    go_wp2_with (go_at_call 116; (with_reducible refine (HL2.out _).mono ?_); rintro e w1 ⟨rfl, hb⟩; have HB := hid hb; clear hb HL2)
    go_ret
    exact ⟨rfl, HB.out⟩
  by_cases h5 : x = [112, 114, 111, 120, 121, 45, 97, 117, 116, 104, 111, 114, 105, 122, 97, 116, 105, 111, 110]
  · have HE := hid (show endB ns nm = false from end_hop (hx.trans h5) (by decide))
    rw [HE.out]
    rw [h5] at HLo
    have HL2 := hid (show ∀ W : World, Calls Tryz.prog 116 #[.string (str nm)] W fun e w' => e = .returned (.string (⟨#[112, 114, 111, 120, 121, 45, 97, 117, 116, 104, 111, 114, 105, 122, 97, 116, 105, 111, 110]⟩ : ByteArray)) ∧ Below W.heap.size W w' from HLo.out)
    clear hx hxl HE HLo h0 h1 h2 h3 h4 h5
    go_enter Tryz.func74, Tryz.ntmps74
    go_wp2_with (go_at_call 116; (with_reducible refine (HL2.out _).mono ?_); rintro e w1 ⟨rfl, hb⟩; have HB := hid hb; clear hb HL2)
    go_ret
    exact ⟨rfl, HB.out⟩
  by_cases h6 : x = [116, 101]
  · have HE := hid (show endB ns nm = false from end_hop (hx.trans h6) (by decide))
    rw [HE.out]
    rw [h6] at HLo
    have HL2 := hid (show ∀ W : World, Calls Tryz.prog 116 #[.string (str nm)] W fun e w' => e = .returned (.string (⟨#[116, 101]⟩ : ByteArray)) ∧ Below W.heap.size W w' from HLo.out)
    clear hx hxl HE HLo h0 h1 h2 h3 h4 h5 h6
    go_enter Tryz.func74, Tryz.ntmps74
    go_wp2_with (go_at_call 116; (with_reducible refine (HL2.out _).mono ?_); rintro e w1 ⟨rfl, hb⟩; have HB := hid hb; clear hb HL2)
    go_ret
    exact ⟨rfl, HB.out⟩
  by_cases h7 : x = [116, 114, 97, 105, 108, 101, 114]
  · have HE := hid (show endB ns nm = false from end_hop (hx.trans h7) (by decide))
    rw [HE.out]
    rw [h7] at HLo
    have HL2 := hid (show ∀ W : World, Calls Tryz.prog 116 #[.string (str nm)] W fun e w' => e = .returned (.string (⟨#[116, 114, 97, 105, 108, 101, 114]⟩ : ByteArray)) ∧ Below W.heap.size W w' from HLo.out)
    clear hx hxl HE HLo h0 h1 h2 h3 h4 h5 h6 h7
    go_enter Tryz.func74, Tryz.ntmps74
    go_wp2_with (go_at_call 116; (with_reducible refine (HL2.out _).mono ?_); rintro e w1 ⟨rfl, hb⟩; have HB := hid hb; clear hb HL2)
    go_ret
    exact ⟨rfl, HB.out⟩
  by_cases h8 : x = [116, 114, 97, 110, 115, 102, 101, 114, 45, 101, 110, 99, 111, 100, 105, 110, 103]
  · have HE := hid (show endB ns nm = false from end_hop (hx.trans h8) (by decide))
    rw [HE.out]
    rw [h8] at HLo
    have HL2 := hid (show ∀ W : World, Calls Tryz.prog 116 #[.string (str nm)] W fun e w' => e = .returned (.string (⟨#[116, 114, 97, 110, 115, 102, 101, 114, 45, 101, 110, 99, 111, 100, 105, 110, 103]⟩ : ByteArray)) ∧ Below W.heap.size W w' from HLo.out)
    clear hx hxl HE HLo h0 h1 h2 h3 h4 h5 h6 h7 h8
    go_enter Tryz.func74, Tryz.ntmps74
    go_wp2_with (go_at_call 116; (with_reducible refine (HL2.out _).mono ?_); rintro e w1 ⟨rfl, hb⟩; have HB := hid hb; clear hb HL2)
    go_ret
    exact ⟨rfl, HB.out⟩
  by_cases h9 : x = [104, 111, 115, 116]
  · have HE := hid (end_host (ns := ns) (hx.trans h9))
    rw [HE.out]
    rw [h9] at HLo
    have HL2 := hid (show ∀ W : World, Calls Tryz.prog 116 #[.string (str nm)] W fun e w' => e = .returned (.string (⟨#[104, 111, 115, 116]⟩ : ByteArray)) ∧ Below W.heap.size W w' from HLo.out)
    clear hx hxl HE HLo h0 h1 h2 h3 h4 h5 h6 h7 h8 h9
    go_enter Tryz.func74, Tryz.ntmps74
    go_wp2_with (go_at_call 116; (with_reducible refine (HL2.out _).mono ?_); rintro e w1 ⟨rfl, hb⟩; have HB := hid hb; clear hb HL2)
    go_ret
    exact ⟨rfl, HB.out⟩
  have HE := hid (end_else (ns := ns) hx (show hopB x = false from by unfold hopB; rw [beq_ne h0, beq_ne h1, beq_ne h2, beq_ne h3, beq_ne h4, beq_ne h5, beq_ne h6, beq_ne h7, beq_ne h8]; rfl) h9)
  rw [HE.out]
  have HKey := hid (Go.WideMaps.keyOf_string_mk (k := 9) Tryz.underlying9 (s := str x) (show x.toArray.size ≤ maxLen by unfold maxLen; simp; omega))
  obtain ⟨S, hS⟩ : ∃ S, str x = S := ⟨_, rfl⟩
  obtain ⟨p0, q0⟩ := tl_ne hS h0
  replace p0 : (S.toList == (⟨#[99, 111, 110, 110, 101, 99, 116, 105, 111, 110]⟩ : ByteArray).toList) = false := p0
  obtain ⟨p1, q1⟩ := tl_ne hS h1
  replace p1 : (S.toList == (⟨#[107, 101, 101, 112, 45, 97, 108, 105, 118, 101]⟩ : ByteArray).toList) = false := p1
  obtain ⟨p2, q2⟩ := tl_ne hS h2
  replace p2 : (S.toList == (⟨#[117, 112, 103, 114, 97, 100, 101]⟩ : ByteArray).toList) = false := p2
  obtain ⟨p3, q3⟩ := tl_ne hS h3
  replace p3 : (S.toList == (⟨#[112, 114, 111, 120, 121, 45, 99, 111, 110, 110, 101, 99, 116, 105, 111, 110]⟩ : ByteArray).toList) = false := p3
  obtain ⟨p4, q4⟩ := tl_ne hS h4
  replace p4 : (S.toList == (⟨#[112, 114, 111, 120, 121, 45, 97, 117, 116, 104, 101, 110, 116, 105, 99, 97, 116, 101]⟩ : ByteArray).toList) = false := p4
  obtain ⟨p5, q5⟩ := tl_ne hS h5
  replace p5 : (S.toList == (⟨#[112, 114, 111, 120, 121, 45, 97, 117, 116, 104, 111, 114, 105, 122, 97, 116, 105, 111, 110]⟩ : ByteArray).toList) = false := p5
  obtain ⟨p6, q6⟩ := tl_ne hS h6
  replace p6 : (S.toList == (⟨#[116, 101]⟩ : ByteArray).toList) = false := p6
  obtain ⟨p7, q7⟩ := tl_ne hS h7
  replace p7 : (S.toList == (⟨#[116, 114, 97, 105, 108, 101, 114]⟩ : ByteArray).toList) = false := p7
  obtain ⟨p8, q8⟩ := tl_ne hS h8
  replace p8 : (S.toList == (⟨#[116, 114, 97, 110, 115, 102, 101, 114, 45, 101, 110, 99, 111, 100, 105, 110, 103]⟩ : ByteArray).toList) = false := p8
  obtain ⟨p9, q9⟩ := tl_ne hS h9
  replace p9 : (S.toList == (⟨#[104, 111, 115, 116]⟩ : ByteArray).toList) = false := p9
  have HKe2 := hid (show keyOf Tryz.prog 9 (.string S) = some (Lit.string x) from by rw [← hS]; exact HKey.out)
  rw [hS] at HLo
  obtain ⟨R, hR⟩ : ∃ R, ns.contains x = R := ⟨_, rfl⟩
  rw [hR]
  have HR := hid hR
  clear hx hxl HE hS HKey hR h0 h1 h2 h3 h4 h5 h6 h7 h8 h9
  go_enter Tryz.func74, Tryz.ntmps74
  go_wp2_with (first | (go_at_call 116; (with_reducible refine (HLo.out _).mono ?_); rintro e w1 ⟨rfl, hb⟩; have HB := hid hb; have HP1 := hid (HP.out.next hb); clear hb HLo) | (at_lookup; obtain ⟨pn, D, hown, hpn, hhas⟩ := HP1.out; refine wpList_lookup_own_ok_int _ rfl _ _ 130 rfl 9 3 .i64 lawP Tryz.underlying130 Tryz.underlying3 (zeroI _) m pn D rfl hown _ _ rfl HKe2.out ?_; intro cc _ _; rw [hhas x, HR.out]; clear hown hpn hhas))
  go_ret
  exact ⟨rfl, HB.out⟩
theorem filt_yes {fs : List (B × B)} {P : B × B → Bool} {i : Nat} {f : B × B} (hf : fs[i]? = some f) (h : P f = true) : (fs.take (i + 1)).filter P = (fs.take i).filter P ++ [f] := by
  rw [List.take_add_one, hf, List.filter_append]
  simp [h]
theorem filt_no {fs : List (B × B)} {P : B × B → Bool} {i : Nat} {f : B × B} (hf : fs[i]? = some f) (h : P f = false) : (fs.take (i + 1)).filter P = (fs.take i).filter P := by
  rw [List.take_add_one, hf, List.filter_append]
  simp [h]
theorem filt_le {fs : List (B × B)} {P : B × B → Bool} (i : Nat) : ((fs.take i).filter P).length ≤ i := Nat.le_trans (List.length_filter_le _ _) (by rw [List.length_take]; omega)
/-- While fields are gone through with a map of names. -/
structure StS (w W : World) (m : Nat) (v : Value) (gs : List (B × B)) (ns : List B) : Prop where
  low : Below w.heap.size w W
  row : OwnF W (m + 1) v gs
  pl : PlAt W m ns
theorem StS.next {w W W' : World} {m : Nat} {v : Value} {gs : List (B × B)} {ns : List B} (h : StS w W m v gs ns) (hb : Below W.heap.size W W') : StS w W' m v gs ns := ⟨below_out h.low hb, h.row.keep hb, h.pl.next hb⟩
theorem StS.app {w W W' : World} {o : Obj} {m : Nat} {v v' : Value} {gs gs' : List (B × B)} {ns : List B} (h : StS w W m v gs ns) (hm : w.heap.size ≤ m) (hg : (W.alloc o).grownBy W' v.ownBlock) (ho : OwnF W' (m + 1) v' gs') : StS w W' m v' gs' ns := by
  have hb := app_below' (B := m + 1) (Below.refl _ _) (Nat.succ_le_of_lt h.pl.lt) h.row hg
  exact ⟨h.low.trans (hb.mono (Nat.le_succ_of_le hm)), ho, h.pl.blk (hb.block _ (Nat.lt_succ_self _))⟩
theorem own_ltF {W : World} {b k : Nat} {v : Value} {gs : List (B × B)} (h : OwnF W b v gs) (e : v.ownBlock = some k) : k < W.heap.size := by
  rcases h.2 with ⟨h', _⟩ | ⟨g, cap, cur, e1, e2, e3, e4⟩
  · rw [h'] at e; cases e
  · rw [e1] at e
    obtain rfl : g = k := by simpa [Value.ownBlock] using e
    exact lt_of_heap e3
theorem cell_grow {U U' : World} {ob : Option Nat} {g j : Nat} {x : Value} (h : U.cell? ⟨g, j, none⟩ = some x) (hg : U.grownBy U' ob) (hne : ob ≠ some g) : U'.cell? ⟨g, j, none⟩ = some x := by
  have e := hg.block g (lt_of_cell h) (fun e => hne e.symm)
  unfold World.cell? at h ⊢
  dsimp only at h ⊢
  rw [e]
  exact h
theorem RdW.grow {U U' : World} {ob : Option Nat} {g : Nat} {N V : ByteArray} (h : RdW U g N V) (hg : U.grownBy U' ob) (hne : ob ≠ some g) : RdW U' g N V := ⟨cell_grow h.a0 hg hne, cell_grow h.a1 hg hne⟩
set_option maxRecDepth 20000 in
set_option maxHeartbeats 16000000 in
theorem pstrip (fs : List (B × B)) (p : Option Addr) (n c : Nat) (hn : fs.length = n) (w : World) (hF : FAt w p fs) (hsz : szN fs) (hnn : n ≤ 1000) (hmx : ∃ m : Int, w.cell? ⟨2, 0, none⟩ = some (.int .i64 m)) :
    Calls Tryz.prog 36 #[.slice p n c] w fun e w' => ∃ v, e = .returned v ∧ OwnF w' w.heap.size v (stripF fs) ∧ Below w.heap.size w w' := by
  have HN := hid hn
  have HF := hid hF
  have HZ := hid hsz
  have HNm := hid (pnamed fs p n c hn w hF hsz hnn hmx)
  obtain ⟨ns, hns⟩ : ∃ ns, namF [] fs = ns := ⟨_, rfl⟩
  rw [hns] at HNm
  obtain ⟨P, hP⟩ : ∃ P : B × B → Bool, (fun f : B × B => endB ns f.1) = P := ⟨_, rfl⟩
  have HPe := hid (fun f : B × B => show endB ns f.1 = P f from by rw [← hP])
  have hst : stripF fs = fs.filter P := by unfold stripF; rw [hns, hP]
  rw [hst]
  obtain ⟨i0, hi0, hz0, hz1, hz2⟩ := info_parts infoF
  clear hn hF hsz hns hP hst hmx
  go_enter Tryz.func36, Tryz.ntmps36
  go_wp2_with (go_at_call 73; (with_reducible refine HNm.out.mono ?_); rintro e w1 ⟨v1, rfl, hs⟩; have HS0 := hid (show StS w w1 w.heap.size (.slice none 0 0) [] ns from ⟨hs.low, OwnF.nil _ _, hs.pl⟩); clear hs HNm)
  go_loopg [5, 15] (n + 1) (fun gk s5 s15 wr => ∃ (i : Nat) (q : Option Addr) (k d : Nat), s5 = .slice q k d ∧ s15 = .int .i64 (i : Int) ∧ i ≤ n ∧ gk = n - i + 1 ∧ ((fs.take i).filter P).length = k ∧ StS w wr w.heap.size (.slice q k d) ((fs.take i).filter P) ns)
  case atStart => exact ⟨0, none, 0, 0, rfl, rfl, by omega, rfl, rfl, HS0.out⟩
  case round =>
    obtain ⟨i, q, k, d, rfl, rfl, hin, rfl, hk, hs⟩ := hrel
    rename World => wr
    have hki : k ≤ i := by rw [← hk]; exact filt_le i
    have HS := hid hs
    have HLt := hid (fun (b : Nat) (e : (Value.slice q k d).ownBlock = some b) => own_ltF hs.row e)
    have HK := hid hk
    clear hs hk HS0
    by_cases hlt : i < n
    · obtain ⟨f, hf⟩ : ∃ f, fs[i]? = some f := ⟨fs[i]'(by rw [HN.out]; exact hlt), List.getElem?_eq_getElem (by rw [HN.out]; exact hlt)⟩
      obtain ⟨g, o, hp, c0, c1⟩ := (HF.out.next HS.out.low) i f hf
      subst hp
      have hltI : (i : Int) < (n : Int) := by omega
      obtain ⟨z1, z2⟩ := HZ.out f (List.mem_of_getElem? hf)
      have HEn := hid (show ∀ W : World, PlAt W w.heap.size ns → _ from fun W h => pend f.1 ns w.heap.size W h z1)
      have HC1 := hid (show ∀ W : World, _ from fun W => clone_any (str f.1) W (by rw [str_size]; omega))
      have HC2 := hid (show ∀ W : World, _ from fun W => clone_any (str f.2) W (by rw [str_size]; omega))
      have HYy := hid (fun (h : P f = true) => filt_yes (P := P) hf h)
      have HYn := hid (fun (h : P f = false) => filt_no (P := P) hf h)
      rw [HPe.out f] at HEn
      obtain ⟨S, hS⟩ : ∃ S, P f = S := ⟨_, rfl⟩
      rw [hS] at HEn HYy HYn
      have HPc := hid (show fldC [f] = [.string (str f.1), .string (str f.2)] from rfl)
      obtain ⟨N, hN⟩ : ∃ N, str f.1 = N := ⟨_, rfl⟩
      obtain ⟨V, hV⟩ : ∃ V, str f.2 = V := ⟨_, rfl⟩
      have HNN := hid hN
      have HVV := hid hV
      rw [hN] at c0 HEn HC1 HPc
      rw [hV] at c1 HC2 HPc
      have HSB := hid (HS.out.next (below_new wr (.cells #[.string N, .string V] 88 (0, 0))))
      have HBx := hid (heap_alloc_new wr (.cells #[.string N, .string V] 88 (0, 0)))
      clear hf hS hN hV z1 z2
      cases S with
      | false =>
        have HY := hid (HYn.out rfl)
        go_wp2_with (go_at_call 74; (with_reducible refine (HEn.out _ HSB.out.pl).mono ?_); rintro e w2 ⟨rfl, hb⟩; have HS2 := hid (HSB.out.next hb); clear hb HEn)
        go_roundg (n - (i + 1) + 1)
        case measure => omega
        case rel => exact ⟨i + 1, q, k, d, rfl, by go_num, by omega, rfl, by rw [HY.out]; exact HK.out, by rw [HY.out]; exact HS2.out⟩
      | true =>
        have HY := hid (HYy.out rfl)
        go_wp2_with (go_at_call 74; (with_reducible refine (HEn.out _ HSB.out.pl).mono ?_); rintro e w2 ⟨rfl, hb⟩; have HS2 := hid (HSB.out.next hb); have HX2 := hid ((hb.block _ (lt_of_heap HBx.out)).trans HBx.out); clear hb HEn)
        obtain ⟨y0, y1⟩ := box2W HX2.out
        have hS0 : RdW w2.drew wr.heap.size N V := ⟨y0, y1⟩
        have HS3 := hid (show StS w w2.drew w.heap.size (.slice q k d) ((fs.take i).filter P) ns from HS2.out.next ⟨rfl, rfl, rfl, Nat.le_refl _, fun _ _ => rfl⟩)
        generalize hW3 : w2.drew = w3 at hS0 HS3
        refine wp_region_noPanic ?_
        refine any_begin 11 (by kernel_rfl) (by kernel_rfl) ?_
        rw [hW3]
        clear hW3 HS2 HX2 y0 y1 HSB HBx
        refine late_begin (fun U => RdW U wr.heap.size N V) (fun _ => false) hS0 (fun hS => ?_)
        refine late_take (i := 0) (some 23) rfl rfl (by kernel_rfl) (by kernel_rfl) (by kernel_rfl) (by kernel_rfl) (by kernel_rfl) (fun _ _ _ h => h) (by rfl) (v := ?v0p) ?hy0p hS ?rest0p
        case hy0p => intro w0 hSw; have a0 := hSw.a0; have a1 := hSw.a1; go_simp; try with_reducible rfl
        simp only [Act.put, List.setIfInBounds_toArray, List.set_cons_zero, List.set_cons_succ]
        refine late_take (i := 1) (some 24) rfl rfl (by kernel_rfl) (by kernel_rfl) (by kernel_rfl) (by kernel_rfl) (by kernel_rfl) (fun _ _ _ h => h) (by rfl) (v := ?v1p) ?hy1p hS ?rest1p
        case hy1p => intro w0 hSw; have a0 := hSw.a0; have a1 := hSw.a1; go_simp; try with_reducible rfl
        simp only [Act.put, List.setIfInBounds_toArray, List.set_cons_zero, List.set_cons_succ]
        refine late_take (i := 2) (some 25) rfl rfl (by kernel_rfl) (by kernel_rfl) (by kernel_rfl) (by kernel_rfl) (by kernel_rfl) (fun _ _ _ h => h) (by rfl) (v := ?v2p) ?hy2p hS ?rest2p
        case hy2p => intro w0 hSw; have a0 := hSw.a0; have a1 := hSw.a1; go_simp; try with_reducible rfl
        simp only [Act.put, List.setIfInBounds_toArray, List.set_cons_zero, List.set_cons_succ]
        refine late_take (i := 4) (some 27) rfl rfl (by kernel_rfl) (by kernel_rfl) (by kernel_rfl) (by kernel_rfl) (by kernel_rfl) (fun _ _ _ h => h) (by rfl) (v := ?v4p) ?hy4p hS ?rest4p
        case hy4p => intro w0 hSw; have a0 := hSw.a0; have a1 := hSw.a1; go_simp; try with_reducible rfl
        simp only [Act.put, List.setIfInBounds_toArray, List.set_cons_zero, List.set_cons_succ]
        refine late_take (i := 5) (some 28) rfl rfl (by kernel_rfl) (by kernel_rfl) (by kernel_rfl) (by kernel_rfl) (by kernel_rfl) (fun _ _ _ h => h) (by rfl) (v := ?v5p) ?hy5p hS ?rest5p
        case hy5p => intro w0 hSw; have a0 := hSw.a0; have a1 := hSw.a1; go_simp; try with_reducible rfl
        simp only [Act.put, List.setIfInBounds_toArray, List.set_cons_zero, List.set_cons_succ]
        refine wpAnyD_one (i := 3) (by kernel_rfl) rfl (fun K' hK => ?_)
        go_simp
        go_at_call 44
        refine (HC1.out _).mono ?_
        rintro e w4 ⟨rfl, hb⟩
        have HS4 := hid (HS3.out.next hb)
        have hS4 : RdW w4 wr.heap.size N V := hS.next hb
        refine hK _ _ ⟨fun _ => hS4, ?_⟩
        clear hK K' hb
        refine wpAnyD_one (i := 6) (by kernel_rfl) rfl (fun K' hK => ?_)
        go_simp
        go_at_call 44
        refine (HC2.out _).mono ?_
        rintro e w5 ⟨rfl, hb⟩
        have HS5 := hid (HS4.out.next hb)
        have hS5 : RdW w5 wr.heap.size N V := hS4.next hb
        refine hK _ _ ⟨fun _ => hS5, ?_⟩
        clear hK K' hb
        refine late_take (i := 7) (some 30) rfl rfl (by kernel_rfl) (by kernel_rfl) (by kernel_rfl) (by kernel_rfl) (by kernel_rfl) (fun _ _ _ h => h) (by rfl) (v := ?v7p) ?hy7p hS5 ?rest7p
        case hy7p => intro w0 hSw; have a0 := hSw.a0; have a1 := hSw.a1; go_simp; try with_reducible rfl
        simp only [Act.put, List.setIfInBounds_toArray, List.set_cons_zero, List.set_cons_succ]
        refine wpAnyD_one (i := 8) (by kernel_rfl) rfl (fun K' hK => ?_)
        go_simp
        have hS6 : RdW (w5.alloc (.cells #[.string N, .string V] 88 (0, 0))) wr.heap.size N V := hS5.next (below_new _ _)
        refine hK _ _ ⟨fun _ => hS6, ?_⟩
        clear hK K'
        refine wpAnyD_one (i := 9) (by kernel_rfl) rfl (fun K' hK => ?_)
        rw [if_pos (by rfl)]
        refine wp_append_own _ (.tmp 23) (.tmp 31) 33 rfl (w.heap.size + 1) 88 i0 _ 2 32 Tryz.underlying33 hi0 hz0 hz1 hz2 rfl (by decide) (.slice q k d) k (fldC ((fs.take i).filter P)) (by go_simp) (by have h9 := HS5.out.row.alloc (.cells #[.string N, .string V] 88 (0, 0)); unfold OwnF at h9; rw [HK.out] at h9; exact h9) ⟨w5.heap.size, 0, none⟩ 1 1 [.string N, .string V] (by go_simp) rfl (cells_new w5 _ _) (by simp [Value.oneCell']) (by unfold maxLen; omega) (by omega) (Nat.le_trans (Nat.succ_le_of_lt HS5.out.pl.lt) (below_new _ _).size) ?_
        intro v' w7 hown' hgrow _
        obtain ⟨q', d', rfl⟩ := own_slice hown'
        have hS7 : RdW w7 wr.heap.size N V := hS6.grow hgrow (fun e => Nat.lt_irrefl _ (HLt.out _ e))
        have HS7 := hid (HS5.out.app (Nat.le_refl _) hgrow (show OwnF w7 (w.heap.size + 1) (.slice q' (k + 1) d') ((fs.take i).filter P ++ [f]) from OwnF.snocW HK.out.symm HNN.out HVV.out hown'))
        refine hK _ _ ⟨fun _ => hS7, ?_⟩
        clear hK K' hown' hgrow hS4 hS5 hS6 HS3 HS4 HS5
        refine late_take (i := 10) (some 5) rfl rfl (by kernel_rfl) (by kernel_rfl) (by kernel_rfl) (by kernel_rfl) (by kernel_rfl) (fun _ _ _ h => h) (by rfl) (v := ?v10p) ?hy10p hS7 ?rest10p
        case hy10p => intro w0 hSw; have a0 := hSw.a0; have a1 := hSw.a1; go_simp; try with_reducible rfl
        simp only [Act.put, List.setIfInBounds_toArray]
        refine late_done (by kernel_rfl) ?_ _
        refine NoPanic.normal ?_
        go_wp2
        go_roundg (n - (i + 1) + 1)
        case measure => omega
        case rel => exact ⟨i + 1, q', k + 1, d', rfl, by go_num, by omega, rfl, by rw [HY.out, List.length_append, HK.out]; rfl, by rw [HY.out]; exact HS7.out⟩
    · obtain rfl : i = n := by omega
      have hltI : ¬ (i : Int) < (i : Int) := by omega
      have HT := hid (show fs.take i = fs from List.take_of_length_le (by rw [HN.out]; exact Nat.le_refl _))
      clear hlt
      go_wp2
      go_ret
      exact ⟨_, rfl, by have h9 := HS.out.row; rw [HT.out] at h9; exact OwnF.lowW h9 (Nat.le_succ _), HS.out.low⟩
theorem str9 (w : World) : StrAt (w.alloc (.cells #[.string ⟨#[67, 111, 110, 110, 101, 99, 116, 105, 111, 110]⟩, .string ⟨#[75, 101, 101, 112, 45, 65, 108, 105, 118, 101]⟩, .string ⟨#[80, 114, 111, 120, 121, 45, 67, 111, 110, 110, 101, 99, 116, 105, 111, 110]⟩, .string ⟨#[80, 114, 111, 120, 121, 45, 65, 117, 116, 104, 101, 110, 116, 105, 99, 97, 116, 101]⟩, .string ⟨#[80, 114, 111, 120, 121, 45, 65, 117, 116, 104, 111, 114, 105, 122, 97, 116, 105, 111, 110]⟩, .string ⟨#[84, 69]⟩, .string ⟨#[84, 114, 97, 105, 108, 101, 114]⟩, .string ⟨#[84, 114, 97, 110, 115, 102, 101, 114, 45, 69, 110, 99, 111, 100, 105, 110, 103]⟩, .string ⟨#[85, 112, 103, 114, 97, 100, 101]⟩] 9 (0, 0))) (some ⟨w.heap.size, 0, none⟩) alwaysL := by
  intro j y hj
  refine ⟨w.heap.size, 0, rfl, ?_⟩
  rw [World.cell?_alloc_new, Nat.zero_add]
  unfold alwaysL at hj
  rcases j with _ | _ | _ | _ | _ | _ | _ | _ | _ | j <;> simp at hj <;> (subst hj; rfl)
set_option maxRecDepth 20000 in
set_option maxHeartbeats 16000000 in
theorem dstrip (fs : List (B × B)) (p : Option Addr) (n c : Nat) (hn : fs.length = n) (w : World) (hF : FAt w p fs) (hsz : szN fs) (hnn : n ≤ 1000) :
    Calls Tryz.prog 47 #[.slice p n c] w fun e w' => ∃ v, e = .returned v ∧ OwnF w' w.heap.size v (stripF fs) ∧ Below w.heap.size w w' := by
  have HN := hid hn
  have HF := hid hF
  have HZ := hid hsz
  have HNm := hid (show ∀ W : World, Below w.heap.size w W → _ from fun W hb => dNamed fs p n c hn W (hF.next hb) hsz hnn)
  have hlow : lowAll (namF [] fs) := namF_low fs [] (fun y hy => by cases hy)
  have hsm := namF_small fs [] hsz (fun y hy => by cases hy)
  obtain ⟨ns, hns⟩ : ∃ ns, namF [] fs = ns := ⟨_, rfl⟩
  rw [hns] at HNm hlow hsm
  have hcn : ns.length ≤ 2000000000 := by rw [← hns]; exact namF_most fs hsz (by omega)
  obtain ⟨P, hP⟩ : ∃ P : B × B → Bool, (fun f : B × B => endB ns f.1) = P := ⟨_, rfl⟩
  have HPe := hid (fun f : B × B => show endB ns f.1 = P f from by rw [← hP])
  have hst : stripF fs = fs.filter P := by unfold stripF; rw [hns, hP]
  rw [hst]
  obtain ⟨nk, hnk⟩ : ∃ nk, ns.length = nk := ⟨_, rfl⟩
  rw [hnk] at hcn
  have HNk := hid hnk
  have HLow := hid hlow
  have HSml := hid hsm
  have HB0 := hid (below_new w (.cells #[.string ⟨#[67, 111, 110, 110, 101, 99, 116, 105, 111, 110]⟩, .string ⟨#[75, 101, 101, 112, 45, 65, 108, 105, 118, 101]⟩, .string ⟨#[80, 114, 111, 120, 121, 45, 67, 111, 110, 110, 101, 99, 116, 105, 111, 110]⟩, .string ⟨#[80, 114, 111, 120, 121, 45, 65, 117, 116, 104, 101, 110, 116, 105, 99, 97, 116, 101]⟩, .string ⟨#[80, 114, 111, 120, 121, 45, 65, 117, 116, 104, 111, 114, 105, 122, 97, 116, 105, 111, 110]⟩, .string ⟨#[84, 69]⟩, .string ⟨#[84, 114, 97, 105, 108, 101, 114]⟩, .string ⟨#[84, 114, 97, 110, 115, 102, 101, 114, 45, 69, 110, 99, 111, 100, 105, 110, 103]⟩, .string ⟨#[85, 112, 103, 114, 97, 100, 101]⟩] 9 (0, 0)))
  have HA0 := hid (str9 w)
  obtain ⟨i0, hi0, hz0, hz1, hz2⟩ := info_parts infoF
  clear hn hF hsz hns hP hst hlow hsm hnk
  go_enter Tryz.func47, Tryz.ntmps47
  go_wp2_with (go_at_call 87; (with_reducible refine (HNm.out _ HB0.out).mono ?_); rintro e w1 ⟨v1, rfl, ho, hb⟩; obtain ⟨q1, d1, rfl⟩ : ∃ q d, v1 = .slice q nk d := (by have h9 := own_slice ho; rw [HNk.out] at h9; exact h9); have HB1 := hid (below_out HB0.out hb); have HA1 := hid (HA0.out.next hb); have HS1 := hid (OwnS.strAt ho); clear ho hb HNm HA0 HB0)
  go_loopg [5, 6] (n + 1) (fun gk s5 s6 wr => ∃ (i : Nat) (q : Option Addr) (k d : Nat), s5 = .slice q k d ∧ s6 = .int .i64 (i : Int) ∧ i ≤ n ∧ gk = n - i + 1 ∧ ((fs.take i).filter P).length = k ∧ OwnF wr w1.heap.size (.slice q k d) ((fs.take i).filter P) ∧ Below w1.heap.size w1 wr)
  case atStart => exact ⟨0, none, 0, 0, rfl, rfl, by omega, rfl, rfl, OwnF.nil _ _, Below.refl _ _⟩
  case round =>
    obtain ⟨i, q, k, d, rfl, rfl, hin, rfl, hk, ho, hb⟩ := hrel
    rename World => wr
    have hki : k ≤ i := by rw [← hk]; exact filt_le i
    have HO := hid ho
    have HB := hid hb
    have HK := hid hk
    clear ho hb hk
    by_cases hlt : i < n
    · obtain ⟨f, hf⟩ : ∃ f, fs[i]? = some f := ⟨fs[i]'(by rw [HN.out]; exact hlt), List.getElem?_eq_getElem (by rw [HN.out]; exact hlt)⟩
      obtain ⟨g, o, hp, c0, c1⟩ := (HF.out.next (below_out HB1.out HB.out)) i f hf
      subst hp
      have hltI : (i : Int) < (n : Int) := by omega
      obtain ⟨z1, z2⟩ := HZ.out f (List.mem_of_getElem? hf)
      have HI1 := hid (show ∀ W : World, Below w1.heap.size w1 W → _ from fun W hb => din f.1 alwaysL (some ⟨w.heap.size, 0, none⟩) 9 9 rfl W (HA1.out.next hb) (by omega) (by decide) (by decide))
      have HI2 := hid (show ∀ W : World, Below w1.heap.size w1 W → _ from fun W hb => din f.1 ns q1 nk d1 HNk.out W (HS1.out.next hb) (by omega) (fun z hz => Nat.le_trans (HSml.out z hz) (by decide)) (by omega))
      have HSm := hid (show ∀ W : World, _ from fun W => rsame_any (str f.1) (str [72, 111, 115, 116]) W (by rw [str_size]; omega) (by decide))
      have hdoc := strip_doc ns HLow.out f.1
      rw [HPe.out f] at hdoc
      have HYy := hid (fun (h : P f = true) => filt_yes (P := P) hf h)
      have HYn := hid (fun (h : P f = false) => filt_no (P := P) hf h)
      obtain ⟨N, hN⟩ : ∃ N, str f.1 = N := ⟨_, rfl⟩
      obtain ⟨V, hV⟩ : ∃ V, str f.2 = V := ⟨_, rfl⟩
      have HNN := hid hN
      have HVV := hid hV
      obtain ⟨R1, h1⟩ : ∃ R, inB f.1 alwaysL = R := ⟨_, rfl⟩
      obtain ⟨R2, h2⟩ : ∃ R, inB f.1 ns = R := ⟨_, rfl⟩
      obtain ⟨R3, h3⟩ : ∃ R, sameB (str f.1) (str [72, 111, 115, 116]) = R := ⟨_, rfl⟩
      obtain ⟨R4, h4⟩ : ∃ R, P f = R := ⟨_, rfl⟩
      rw [h1] at HI1 hdoc
      rw [h2] at HI2 hdoc
      rw [h3] at HSm hdoc
      rw [h4] at HYy HYn hdoc
      rw [hN] at c0 HI1 HI2 HSm
      rw [hV] at c1
      have HSm2 := hid (show ∀ W : World, Calls Tryz.prog 49 #[.string N, .string (⟨#[72, 111, 115, 116]⟩ : ByteArray)] W fun e w' => e = .returned (.bool R3) ∧ Below W.heap.size W w' from HSm.out)
      clear hf hN hV z1 z2 h1 h2 h3 h4 HSm
      cases R1 with
      | true =>
        obtain rfl : R4 = false := by cases R4 <;> simp_all
        have HY := hid (HYn.out rfl)
        clear hdoc
        go_wp2_with (first | (go_at_call 88; (with_reducible refine (HI1.out _ HB.out).mono ?_); rintro e w2 ⟨rfl, hb⟩; have HB2 := hid (below_out HB.out hb); have HO2 := hid (HO.out.keep hb); have x0 := cell_keep hb c0; have x1 := cell_keep hb c1; clear hb HI1 c0 c1))
        go_roundg (n - (i + 1) + 1)
        case measure => omega
        case rel => exact ⟨i + 1, q, k, d, rfl, by go_num, by omega, rfl, by rw [HY.out]; exact HK.out, by rw [HY.out]; exact HO2.out, HB2.out⟩
      | false =>
        cases R2 with
        | false =>
          obtain rfl : R4 = true := by cases R4 <;> simp_all
          have HY := hid (HYy.out rfl)
          clear hdoc
          go_wp2_with (first | (go_at_call 88; (with_reducible refine (HI1.out _ HB.out).mono ?_); rintro e w2 ⟨rfl, hb⟩; have HB2 := hid (below_out HB.out hb); have HO2 := hid (HO.out.keep hb); have x0 := cell_keep hb c0; have x1 := cell_keep hb c1; clear hb HI1 c0 c1) | (go_at_call 88; (with_reducible refine (HI2.out _ HB2.out).mono ?_); rintro e w3 ⟨rfl, hb⟩; have HB3 := hid (below_out HB2.out hb); have HO3 := hid (HO2.out.keep hb); have u0 := cell_keep hb x0; have u1 := cell_keep hb x1; clear hb HI2 x0 x1) | (at_builtin; refine wpList_append_own _ rfl (.tmp 35) (.tmp 40) 33 rfl w1.heap.size 88 i0 _ 2 32 Tryz.underlying33 hi0 hz0 hz1 hz2 rfl (by decide) (.slice q k d) k (fldC ((fs.take i).filter P)) (by go_simp) (by have h9 := HO3.out.alloc (.cells #[.string N, .string V] 88 (0, 0)); unfold OwnF at h9; rw [HK.out] at h9; exact h9) ⟨w3.heap.size, 0, none⟩ 1 1 [.string N, .string V] (by go_simp) rfl (cells_new w3 _ _) (by simp [Value.oneCell']) (by unfold maxLen; omega) (by omega) (Nat.le_trans HB3.out.size (below_new _ _).size) ?_; intro v' w7 hown' hgrow _; have HB7 := hid (app_below' HB3.out HB3.out.size HO3.out hgrow); obtain ⟨q', d', rfl⟩ := own_slice hown'; have HO7 := hid (show OwnF w7 w1.heap.size (.slice q' (k + 1) d') ((fs.take i).filter P ++ [f]) from OwnF.snocW HK.out.symm HNN.out HVV.out hown'); clear hown' hgrow))
          go_roundg (n - (i + 1) + 1)
          case measure => omega
          case rel => exact ⟨i + 1, q', k + 1, d', rfl, by go_num, by omega, rfl, by rw [HY.out, List.length_append, HK.out]; rfl, by rw [HY.out]; exact HO7.out, HB7.out⟩
        | true =>
          cases R3 with
          | true =>
            obtain rfl : R4 = true := by cases R4 <;> simp_all
            have HY := hid (HYy.out rfl)
            clear hdoc
            go_wp2_with (first | (go_at_call 88; (with_reducible refine (HI1.out _ HB.out).mono ?_); rintro e w2 ⟨rfl, hb⟩; have HB2 := hid (below_out HB.out hb); have HO2 := hid (HO.out.keep hb); have x0 := cell_keep hb c0; have x1 := cell_keep hb c1; clear hb HI1 c0 c1) | (go_at_call 88; (with_reducible refine (HI2.out _ HB2.out).mono ?_); rintro e w3 ⟨rfl, hb⟩; have HB3 := hid (below_out HB2.out hb); have HO3 := hid (HO2.out.keep hb); have u0 := cell_keep hb x0; have u1 := cell_keep hb x1; clear hb HI2 x0 x1) | (go_at_call 49; (with_reducible refine (HSm2.out _).mono ?_); rintro e w4 ⟨rfl, hb⟩; have HB4 := hid (below_out HB3.out hb); have HO4 := hid (HO3.out.keep hb); have v0 := cell_keep hb u0; have v1 := cell_keep hb u1; clear hb HSm2 u0 u1) | (at_builtin; refine wpList_append_own _ rfl (.tmp 35) (.tmp 40) 33 rfl w1.heap.size 88 i0 _ 2 32 Tryz.underlying33 hi0 hz0 hz1 hz2 rfl (by decide) (.slice q k d) k (fldC ((fs.take i).filter P)) (by go_simp) (by have h9 := HO4.out.alloc (.cells #[.string N, .string V] 88 (0, 0)); unfold OwnF at h9; rw [HK.out] at h9; exact h9) ⟨w4.heap.size, 0, none⟩ 1 1 [.string N, .string V] (by go_simp) rfl (cells_new w4 _ _) (by simp [Value.oneCell']) (by unfold maxLen; omega) (by omega) (Nat.le_trans HB4.out.size (below_new _ _).size) ?_; intro v' w7 hown' hgrow _; have HB7 := hid (app_below' HB4.out HB4.out.size HO4.out hgrow); obtain ⟨q', d', rfl⟩ := own_slice hown'; have HO7 := hid (show OwnF w7 w1.heap.size (.slice q' (k + 1) d') ((fs.take i).filter P ++ [f]) from OwnF.snocW HK.out.symm HNN.out HVV.out hown'); clear hown' hgrow))
            go_roundg (n - (i + 1) + 1)
            case measure => omega
            case rel => exact ⟨i + 1, q', k + 1, d', rfl, by go_num, by omega, rfl, by rw [HY.out, List.length_append, HK.out]; rfl, by rw [HY.out]; exact HO7.out, HB7.out⟩
          | false =>
            obtain rfl : R4 = false := by cases R4 <;> simp_all
            have HY := hid (HYn.out rfl)
            clear hdoc
            go_wp2_with (first | (go_at_call 88; (with_reducible refine (HI1.out _ HB.out).mono ?_); rintro e w2 ⟨rfl, hb⟩; have HB2 := hid (below_out HB.out hb); have HO2 := hid (HO.out.keep hb); have x0 := cell_keep hb c0; have x1 := cell_keep hb c1; clear hb HI1 c0 c1) | (go_at_call 88; (with_reducible refine (HI2.out _ HB2.out).mono ?_); rintro e w3 ⟨rfl, hb⟩; have HB3 := hid (below_out HB2.out hb); have HO3 := hid (HO2.out.keep hb); have u0 := cell_keep hb x0; have u1 := cell_keep hb x1; clear hb HI2 x0 x1) | (go_at_call 49; (with_reducible refine (HSm2.out _).mono ?_); rintro e w4 ⟨rfl, hb⟩; have HB4 := hid (below_out HB3.out hb); have HO4 := hid (HO3.out.keep hb); have v0 := cell_keep hb u0; have v1 := cell_keep hb u1; clear hb HSm2 u0 u1))
            go_roundg (n - (i + 1) + 1)
            case measure => omega
            case rel => exact ⟨i + 1, q, k, d, rfl, by go_num, by omega, rfl, by rw [HY.out]; exact HK.out, by rw [HY.out]; exact HO4.out, HB4.out⟩
    · obtain rfl : i = n := by omega
      have hltI : ¬ (i : Int) < (i : Int) := by omega
      have HT := hid (show fs.take i = fs from List.take_of_length_le (by rw [HN.out]; exact Nat.le_refl _))
      clear hlt
      go_wp2
      go_ret
      exact ⟨_, rfl, by have h9 := HO.out; rw [HT.out] at h9; exact OwnF.lowW h9 HB1.out.size, below_out HB1.out HB.out⟩
end Go.Proofs.YtnlmjlfoeodleaaGreatDoor
/- Fields added, left out and set by the program, whatever row they lie in. -/
namespace Go.Proofs.YtnlmjlfoeodleaaGreatDoor
open Go.RowKit

set_option maxRecDepth 20000 in
set_option maxHeartbeats 8000000 in
theorem padd_some (fs : List (B × B)) (g o n c : Nat) (hn : fs.length = n) (hc : n ≤ c) (a b : B) (w : World) (hF : FAt w (some ⟨g, o, none⟩) fs) (hsz : szW fs) (ha : a.length ≤ 140737488351232) (hb : b.length ≤ 140737488351232) (hnn : n + 1 ≤ 4398046511104) :
    Calls Tryz.prog 42 #[.slice (some ⟨g, o, none⟩) n c, .string (str a), .string (str b)] w fun e w' => ∃ g' m, e = .returned (.slice (some ⟨g', 0, none⟩) m m) ∧ (fs ++ [(a, b)]).length = m ∧ w.heap.size ≤ g' ∧ BlkF w' g' (fs ++ [(a, b)]) ∧ Below w.heap.size w w' := by
  obtain ⟨i0, hi0, hz0, hz1, hz2⟩ := info_parts infoF
  have HAh := hid (show ∀ W : World, _ from fun W => ahead_any g o n c n hc W)
  have HLn := hid (show (fs ++ [(a, b)]).length = n + 1 from by rw [List.length_append, hn]; rfl)
  have HOw := hid (show ∀ (W : World) (p : Option Addr) (d : Nat), FAt W p (fs ++ [(a, b)]) → _ from fun W p d h => own_any (fs ++ [(a, b)]) p (n + 1) d HLn.out W h (szW_app hsz (szW_one ⟨ha, hb⟩)) hnn)
  have HNw := hid (show ∀ W : World, Below w.heap.size w W → ∀ j u, (fldC fs)[j]? = some u → W.cell? ((⟨g, o, none⟩ : Addr).add j) = some u from fun W hb => (hF.next hb).newsW)
  have HL := hid hn
  obtain ⟨N, hN⟩ : ∃ N, str a = N := ⟨_, rfl⟩
  obtain ⟨V, hV⟩ : ∃ V, str b = V := ⟨_, rfl⟩
  rw [hN, hV]
  have HPc := hid (show fldC [(a, b)] = [.string N, .string V] from by rw [← hN, ← hV]; rfl)
  clear hF hsz hn hN hV ha hb
  go_enter Tryz.func42, Tryz.ntmps42
  go_wp2_with (first | (go_at_call 80; (with_reducible refine (HAh.out _).mono ?_); rintro e w1 ⟨rfl, hw1⟩; subst w1; clear HAh) | (at_builtin; refine wpList_append_grows (w.alloc (.cells #[.string N, .string V] 88 (0, 0))) rfl (.tmp 10) (.tmp 14) 33 rfl 88 i0 _ 2 32 Tryz.underlying33 hi0 hz0 hz1 hz2 rfl (by decide) (some ⟨g, o, none⟩) n n (fldC fs) (by go_simp) (fun h => by cases h) (by rw [fldC_len, HL.out]) (fun b e => by cases e; exact HNw.out _ (below_new _ _)) ⟨w.heap.size, 0, none⟩ 1 1 [.string N, .string V] (by go_simp) rfl (cells_new w _ _) (by simp [Value.oneCell']) (by omega) (by unfold maxLen; omega) (by omega) ?_; intro v' w8 hown hgr; obtain ⟨q8, d8, rfl⟩ := own_slice hown; have HB8 := hid (below_out (below_new w _) (below_grown hgr)); have HFr := hid (OwnF.fat (OwnF.appW (A := fs) (C := [(a, b)]) HL.out rfl (by rw [HPc.out]; exact hown))); clear hown hgr) | (go_at_call 75; (with_reducible refine (HOw.out _ _ _ HFr.out).mono ?_); rintro e w9 ⟨rfl, hbk, hb⟩; have HB9 := hid (below_out HB8.out hb); have HK9 := hid hbk; clear hb hbk HOw))
  go_ret
  exact ⟨_, _, rfl, HLn.out, HB8.out.size, HK9.out, HB9.out⟩
set_option maxRecDepth 20000 in
set_option maxHeartbeats 4000000 in
theorem ahead_nil (w : World) : Calls Tryz.prog 80 #[.slice none 0 0, .int .i64 0] w fun e w' => e = .returned (.slice none 0 0) ∧ w' = w := by
  go_enter Tryz.func80, Tryz.ntmps80
  go_wp2
  go_ret
  exact ⟨rfl, rfl⟩
set_option maxRecDepth 20000 in
set_option maxHeartbeats 8000000 in
theorem padd_none (a b : B) (w : World) (ha : a.length ≤ 140737488351232) (hb : b.length ≤ 140737488351232) :
    Calls Tryz.prog 42 #[.slice none 0 0, .string (str a), .string (str b)] w fun e w' => ∃ g' m, e = .returned (.slice (some ⟨g', 0, none⟩) m m) ∧ [(a, b)].length = m ∧ w.heap.size ≤ g' ∧ BlkF w' g' [(a, b)] ∧ Below w.heap.size w w' := by
  obtain ⟨i0, hi0, hz0, hz1, hz2⟩ := info_parts infoF
  have HAh := hid (show ∀ W : World, _ from fun W => ahead_nil W)
  have HOw := hid (show ∀ (W : World) (p : Option Addr) (d : Nat), FAt W p [(a, b)] → _ from fun W p d h => own_any [(a, b)] p 1 d rfl W h (szW_one ⟨ha, hb⟩) (by decide))
  obtain ⟨N, hN⟩ : ∃ N, str a = N := ⟨_, rfl⟩
  obtain ⟨V, hV⟩ : ∃ V, str b = V := ⟨_, rfl⟩
  rw [hN, hV]
  have HPc := hid (show fldC [(a, b)] = [.string N, .string V] from by rw [← hN, ← hV]; rfl)
  clear hN hV ha hb
  go_enter Tryz.func42, Tryz.ntmps42
  go_wp2_with (first | (go_at_call 80; (with_reducible refine (HAh.out _).mono ?_); rintro e w1 ⟨rfl, hw1⟩; subst w1; clear HAh) | (at_builtin; refine wpList_append_own (w.alloc (.cells #[.string N, .string V] 88 (0, 0))) rfl (.tmp 10) (.tmp 14) 33 rfl w.heap.size 88 i0 _ 2 32 Tryz.underlying33 hi0 hz0 hz1 hz2 rfl (by decide) (.slice none 0 0) 0 [] (by go_simp) (OwnF.nil _ _) ⟨w.heap.size, 0, none⟩ 1 1 [.string N, .string V] (by go_simp) rfl (cells_new w _ _) (by simp [Value.oneCell']) (by decide) (by decide) (below_new w _).size ?_; intro v' w8 hown hgr _; obtain ⟨q8, d8, rfl⟩ := own_slice hown; have HB8 := hid (below_out (below_new w _) (below_grown hgr)); have HFr := hid (show FAt w8 q8 [(a, b)] from OwnF.fat (show OwnF w8 w.heap.size (.slice q8 1 d8) [(a, b)] from (by unfold OwnF; rw [HPc.out]; exact hown))); clear hown hgr) | (go_at_call 75; (with_reducible refine (HOw.out _ _ _ HFr.out).mono ?_); rintro e w9 ⟨rfl, hbk, hb⟩; have HB9 := hid (below_out HB8.out hb); have HK9 := hid hbk; clear hb hbk HOw))
  go_ret
  exact ⟨_, _, rfl, rfl, HB8.out.size, HK9.out, HB9.out⟩
theorem padd_any (fs : List (B × B)) (p : Option Addr) (n c : Nat) (hn : fs.length = n) (hc : n ≤ c) (hc0 : p = none → c = 0) (a b : B) (w : World) (hF : FAt w p fs) (hsz : szW fs) (ha : a.length ≤ 140737488351232) (hb : b.length ≤ 140737488351232) (hnn : n + 1 ≤ 4398046511104) (hpl : ∀ ad, p = some ad → ad.spot = none) :
    Calls Tryz.prog 42 #[.slice p n c, .string (str a), .string (str b)] w fun e w' => ∃ g' m, e = .returned (.slice (some ⟨g', 0, none⟩) m m) ∧ (fs ++ [(a, b)]).length = m ∧ w.heap.size ≤ g' ∧ BlkF w' g' (fs ++ [(a, b)]) ∧ Below w.heap.size w w' := by
  cases p with
  | none =>
    obtain rfl := hc0 rfl
    obtain rfl : n = 0 := by omega
    obtain rfl := List.eq_nil_of_length_eq_zero hn
    exact padd_none a b w ha hb
  | some ad =>
    obtain ⟨g, o, sp⟩ := ad
    obtain rfl : sp = none := hpl _ rfl
    exact padd_some fs g o n c hn hc a b w hF hsz ha hb hnn
set_option maxRecDepth 20000 in
set_option maxHeartbeats 8000000 in
theorem pdel_any (fs : List (B × B)) (p : Option Addr) (n c : Nat) (hn : fs.length = n) (a : B) (w : World) (hF : FAt w p fs) (hsz : szW fs) (ha : a.length ≤ 140737488351232) (hnn : n + 1 ≤ 4398046511104) :
    Calls Tryz.prog 38 #[.slice p n c, .string (str a)] w fun e w' => ∃ g' m, e = .returned (.slice (some ⟨g', 0, none⟩) m m) ∧ (delB fs (str a)).length = m ∧ w.heap.size ≤ g' ∧ BlkF w' g' (delB fs (str a)) ∧ Below w.heap.size w w' := by
  have HNa := hid (show ∀ W : World, _ from fun W => named_any (str a) W)
  have HB0 := hid (below_new w (.cells #[.string (str a)] 9 (0, 0)))
  have hc0 : (w.alloc (.cells #[.string (str a)] 9 (0, 0))).cell? ⟨w.heap.size, 0, none⟩ = some (.string (str a)) := by simp only [World.cell?, heap_alloc_new w (.cells #[.string (str a)] 9 (0, 0))]; rfl
  have HC0 := hid hc0
  have has : (str a).size ≤ 140737488351232 := by rw [str_size]; exact ha
  have HWo := hid (without_any fs p n c hn w.heap.size (str a) (w.alloc (.cells #[.string (str a)] 9 (0, 0))) (hF.next HB0.out) hsz has (by omega) hc0)
  have hl := del_le fs (str a)
  have hzd := szW_del (str a) hsz
  rw [show fs.filter (fun f => !isF (str a) f) = delB fs (str a) from rfl] at HWo
  obtain ⟨X, hX⟩ : ∃ X, delB fs (str a) = X := ⟨_, rfl⟩
  rw [hX] at HWo hl hzd
  rw [hX]
  obtain ⟨m, hm⟩ : ∃ m, X.length = m := ⟨_, rfl⟩
  have HLn := hid hm
  have HOw := hid (show ∀ (W : World) (p : Option Addr) (d : Nat), FAt W p X → _ from fun W p d h => own_any X p m d HLn.out W h hzd (by omega))
  clear hF hsz hn hc0 hX hm hl hzd has
  go_enter Tryz.func38, Tryz.ntmps38
  go_wp2_with (first | (go_at_call 77; (with_reducible refine (HNa.out _).mono ?_); rintro e w1 ⟨rfl, hw1⟩; subst w1; clear HNa) | (go_at_call 76; (with_reducible refine HWo.out.mono ?_); rintro e w8 ⟨v8, rfl, ho, hb⟩; obtain ⟨q8, d8, rfl⟩ : ∃ q d, v8 = .slice q m d := (by have h9 := own_slice ho; rw [HLn.out] at h9; exact h9); have HB8 := hid (below_out HB0.out hb); have HFr := hid (OwnF.fat ho); clear hb ho HWo) | (go_at_call 75; (with_reducible refine (HOw.out _ _ _ HFr.out).mono ?_); rintro e w9 ⟨rfl, hbk, hb⟩; have HB9 := hid (below_out HB8.out hb); have HK9 := hid hbk; clear hb hbk HOw))
  go_ret
  exact ⟨_, _, rfl, HLn.out, HB8.out.size, HK9.out, HB9.out⟩
set_option maxRecDepth 20000 in
set_option maxHeartbeats 16000000 in
theorem pset_any (fs : List (B × B)) (p : Option Addr) (n c : Nat) (hn : fs.length = n) (hc : n ≤ c) (hc0p : p = none → c = 0) (hpl : ∀ ad, p = some ad → ad.spot = none) (a b : B) (w : World) (hF : FAt w p fs) (hsz : szW fs) (ha : a.length ≤ 140737488351232) (hb : b.length ≤ 140737488351232) (hnn : n + 1 ≤ 4398046511104) :
    Calls Tryz.prog 79 #[.slice p n c, .string (str a), .string (str b)] w fun e w' => ∃ g' m, e = .returned (.slice (some ⟨g', 0, none⟩) m m) ∧ (setB fs (str a) (a, b)).length = m ∧ w.heap.size ≤ g' ∧ BlkF w' g' (setB fs (str a) (a, b)) ∧ Below w.heap.size w w' := by
  have HNa := hid (show ∀ W : World, _ from fun W => named_any (str a) W)
  have HB0 := hid (below_new w (.cells #[.string (str a)] 9 (0, 0)))
  have hc0 : (w.alloc (.cells #[.string (str a)] 9 (0, 0))).cell? ⟨w.heap.size, 0, none⟩ = some (.string (str a)) := by simp only [World.cell?, heap_alloc_new w (.cells #[.string (str a)] 9 (0, 0))]; rfl
  have HC0 := hid hc0
  have has : (str a).size ≤ 140737488351232 := by rw [str_size]; exact ha
  have HIx := hid (indexf_any fs p n c hn w.heap.size (str a) (w.alloc (.cells #[.string (str a)] 9 (0, 0))) (hF.next HB0.out) hsz has (by omega) hc0)
  by_cases hex : ∃ (i : Nat) (f : B × B), noneTo fs (str a) i ∧ fs[i]? = some f ∧ isF (str a) f = true
  · obtain ⟨i, f, hno, hf, his⟩ := hex
    obtain ⟨g, o, hp, _, _⟩ := hF i f hf
    subst hp
    have hlt : i < n := by rw [← hn]; exact (List.getElem?_eq_some_iff.1 hf).1
    have hSe : setB fs (str a) (a, b) = fs.take i ++ [(a, b)] ++ delB (fs.drop (i + 1)) (str a) := by unfold setB; rw [if_pos (get_yes hno hf his), setR_at hno hf his]
    rw [hSe]
    have HYs := hid (show ∀ I, idxI fs (str a) I → I = (i : Int) from fun I h => idx_yes h hno hf his)
    obtain ⟨i0, hi0, hz0, hz1, hz2⟩ := info_parts infoF
    have HAh := hid (show ∀ W : World, _ from fun W => ahead_any g o n c i (by omega) W)
    have HNw := hid (show ∀ W : World, Below w.heap.size w W → ∀ j u, (fldC (fs.take i))[j]? = some u → W.cell? ((⟨g, o, none⟩ : Addr).add j) = some u from fun W hb => ((hF.next hb).takeW i).newsW)
    have HLt := hid (show (fs.take i).length = i from by rw [List.length_take, hn]; omega)
    have hld : (fs.drop (i + 1)).length = n - (i + 1) := by rw [List.length_drop, hn]
    have HWo := hid (show ∀ W : World, Below w.heap.size w W → W.cell? ⟨w.heap.size, 0, none⟩ = some (.string (str a)) → _ from fun W hb h => without_any (fs.drop (i + 1)) (some ⟨g, o + (i + 1) * 2, none⟩) (n - (i + 1)) (c - (i + 1)) hld w.heap.size (str a) W ((hF.next hb).dropW (i + 1)) (szW_drop _ hsz) has (by omega) h)
    have hl := del_le (fs.drop (i + 1)) (str a)
    have hzd := szW_app (szW_app (szW_take i hsz) (szW_one (x := (a, b)) ⟨ha, hb⟩)) (szW_del (str a) (szW_drop (i + 1) hsz))
    rw [show (fs.drop (i + 1)).filter (fun f => !isF (str a) f) = delB (fs.drop (i + 1)) (str a) from rfl] at HWo
    obtain ⟨X, hX⟩ : ∃ X, delB (fs.drop (i + 1)) (str a) = X := ⟨_, rfl⟩
    rw [hX] at HWo hl hzd
    rw [hX]
    obtain ⟨m, hm⟩ : ∃ m, X.length = m := ⟨_, rfl⟩
    have HLx := hid hm
    have HLn := hid (show (fs.take i ++ [(a, b)] ++ X).length = i + 1 + m from by rw [List.length_append, List.length_append, HLt.out, hm]; rfl)
    have HLt1 := hid (show (fs.take i ++ [(a, b)]).length = i + 1 from by rw [List.length_append, HLt.out]; rfl)
    rw [hld, hm] at hl
    have hlm : m ≤ n - (i + 1) := hl
    have HOw := hid (show ∀ (W : World) (p : Option Addr) (d : Nat), FAt W p (fs.take i ++ [(a, b)] ++ X) → _ from fun W p d h => own_any (fs.take i ++ [(a, b)] ++ X) p (i + 1 + m) d HLn.out W h hzd (by omega))
    obtain ⟨N, hN⟩ : ∃ N, str a = N := ⟨_, rfl⟩
    obtain ⟨V, hV⟩ : ∃ V, str b = V := ⟨_, rfl⟩
    have HNn := hid hN
    have has9 := has
    have HPc := hid (show fldC [(a, b)] = [.string N, .string V] from by rw [← hN, ← hV]; rfl)
    rw [hN] at HNa HB0 HC0 HIx HWo HYs
    rw [hN, hV]
    have hic1 : (i : Int) + 1 ≤ (n : Int) := by omega
    have hin1 : i + 1 ≤ n := by omega
    have hic2 : i + 1 ≤ c := by omega
    have hwi : IntKind.i64.wrap ((i : Int) + 1) = ((i + 1 : Nat) : Int) := by rw [IntKind.wrap_i64]; omega
    clear hF hsz hn hN hV ha hb hno hf his hSe hX hm hl hzd hld hc0 has
    have HWo0 := hid (show ∀ (W : World) (p9 : Option Addr) (c9 : Nat), W.cell? ⟨w.heap.size, 0, none⟩ = some (.string N) → _ from fun W p9 c9 h => without_any [] p9 0 c9 rfl w.heap.size N W (fun j f hj => by simp at hj) (fun f hf => by cases hf) (by rw [← HNn.out]; exact has9) (by omega) h)
    by_cases hm0 : m = 0
    · subst hm0
      obtain rfl : X = [] := List.eq_nil_of_length_eq_zero HLx.out
      by_cases hcne : c = i + 1
      · subst hcne
        go_enter Tryz.func79, Tryz.ntmps79
        go_wp2_with (first | (go_at_call 77; (with_reducible refine (HNa.out _).mono ?_); rintro e w1 ⟨rfl, hw1⟩; subst w1; clear HNa) | (go_at_call 118; (with_reducible refine HIx.out.mono ?_); rintro e w2 ⟨I, rfl, hI, hb⟩; have HB2 := hid (below_out HB0.out hb); obtain rfl := HYs.out I hI; have HC2 := hid (cell_keep hb HC0.out); clear hb HIx) | (go_at_call 80; (with_reducible refine (HAh.out _).mono ?_); rintro e w3 ⟨rfl, hw3⟩; subst w3; clear HAh) | (at_builtin; refine wpList_append_grows (w2.alloc (.cells #[.string N, .string V] 88 (0, 0))) rfl (.tmp 23) (.tmp 27) 33 rfl 88 i0 _ 2 32 Tryz.underlying33 hi0 hz0 hz1 hz2 rfl (by decide) (some ⟨g, o, none⟩) i i (fldC (fs.take i)) (by go_simp) (fun h => by cases h) (by rw [fldC_len, HLt.out]) (fun b e => by cases e; exact HNw.out _ (below_out HB2.out (below_new _ _))) ⟨w2.heap.size, 0, none⟩ 1 1 [.string N, .string V] (by go_simp) rfl (cells_new w2 _ _) (by simp [Value.oneCell']) (by omega) (by unfold maxLen; omega) (by omega) ?_; intro v' w4 hown hgr; obtain ⟨q4, d4, rfl⟩ := own_slice hown; have HB4 := hid (below_out (below_out HB2.out (below_new w2 _)) (below_grown hgr)); have HC4 := hid (cell_keep (below_grown hgr) (cell_keep (below_new w2 _) HC2.out)); have HO4 := hid (show OwnF w4 w.heap.size (.slice q4 (i + 1) d4) (fs.take i ++ [(a, b)]) from OwnF.lowW (OwnF.appW (A := fs.take i) (C := [(a, b)]) HLt.out rfl (by rw [HPc.out]; exact hown)) (below_out HB2.out (below_new w2 _)).size); clear hown hgr HNw) | (go_at_call 76; (with_reducible refine (HWo0.out _ _ _ HC4.out).mono ?_); rintro e w5 ⟨v5, rfl, ho, hb⟩; have HB5 := hid (below_out HB4.out hb); have HO5 := hid (HO4.out.keep hb); obtain ⟨q5, d5, rfl, hq5⟩ := ownF_empty ho; have HQ5 := hid hq5; clear hq5; clear hb ho HWo) | (at_builtin; clear HPc; refine wpList_append_emptyW _ rfl (.tmp 29) (.tmp 35) 33 rfl w.heap.size 88 i0 _ 2 32 Tryz.underlying33 hi0 hz0 hz1 hz2 rfl (by decide) (.slice q4 (i + 1) d4) (i + 1) (fldC (fs.take i ++ [(a, b)])) (by go_simp) (by have h9 := HO5.out; unfold OwnF at h9; rw [HLt1.out] at h9; exact h9) q5 d5 (by go_simp) HQ5.out (by unfold maxLen; omega) (by omega) HB5.out.size ?_; intro v' w8 hown hgr; obtain ⟨q8, d8, rfl⟩ := own_slice hown; have HB8 := hid (HB5.out.trans (OwnF.below HO5.out HB5.out.size hgr)); have HFr := hid (show FAt w8 q8 (fs.take i ++ [(a, b)] ++ []) from by rw [List.append_nil]; exact OwnF.fat (show OwnF w8 w.heap.size (.slice q8 (i + 1) d8) (fs.take i ++ [(a, b)]) from by unfold OwnF; rw [HLt1.out]; exact hown)); clear hown hgr) | (go_at_call 75; (with_reducible refine (HOw.out _ _ _ HFr.out).mono ?_); rintro e w9 ⟨rfl, hbk, hb⟩; have HB9 := hid (below_out HB8.out hb); have HK9 := hid hbk; clear hb hbk HOw))
        go_ret
        exact ⟨_, _, rfl, HLn.out, HB8.out.size, HK9.out, HB9.out⟩
      · skip
        go_enter Tryz.func79, Tryz.ntmps79
        go_wp2_with (first | (go_at_call 77; (with_reducible refine (HNa.out _).mono ?_); rintro e w1 ⟨rfl, hw1⟩; subst w1; clear HNa) | (go_at_call 118; (with_reducible refine HIx.out.mono ?_); rintro e w2 ⟨I, rfl, hI, hb⟩; have HB2 := hid (below_out HB0.out hb); obtain rfl := HYs.out I hI; have HC2 := hid (cell_keep hb HC0.out); clear hb HIx) | (go_at_call 80; (with_reducible refine (HAh.out _).mono ?_); rintro e w3 ⟨rfl, hw3⟩; subst w3; clear HAh) | (at_builtin; refine wpList_append_grows (w2.alloc (.cells #[.string N, .string V] 88 (0, 0))) rfl (.tmp 23) (.tmp 27) 33 rfl 88 i0 _ 2 32 Tryz.underlying33 hi0 hz0 hz1 hz2 rfl (by decide) (some ⟨g, o, none⟩) i i (fldC (fs.take i)) (by go_simp) (fun h => by cases h) (by rw [fldC_len, HLt.out]) (fun b e => by cases e; exact HNw.out _ (below_out HB2.out (below_new _ _))) ⟨w2.heap.size, 0, none⟩ 1 1 [.string N, .string V] (by go_simp) rfl (cells_new w2 _ _) (by simp [Value.oneCell']) (by omega) (by unfold maxLen; omega) (by omega) ?_; intro v' w4 hown hgr; obtain ⟨q4, d4, rfl⟩ := own_slice hown; have HB4 := hid (below_out (below_out HB2.out (below_new w2 _)) (below_grown hgr)); have HC4 := hid (cell_keep (below_grown hgr) (cell_keep (below_new w2 _) HC2.out)); have HO4 := hid (show OwnF w4 w.heap.size (.slice q4 (i + 1) d4) (fs.take i ++ [(a, b)]) from OwnF.lowW (OwnF.appW (A := fs.take i) (C := [(a, b)]) HLt.out rfl (by rw [HPc.out]; exact hown)) (below_out HB2.out (below_new w2 _)).size); clear hown hgr HNw) | (go_at_call 76; (with_reducible refine (HWo.out _ HB4.out HC4.out).mono ?_); rintro e w5 ⟨v5, rfl, ho, hb⟩; have HB5 := hid (below_out HB4.out hb); have HO5 := hid (HO4.out.keep hb); obtain ⟨q5, d5, rfl, hq5⟩ := ownF_empty ho; have HQ5 := hid hq5; clear hq5; clear hb ho HWo) | (at_builtin; clear HPc; refine wpList_append_emptyW _ rfl (.tmp 29) (.tmp 35) 33 rfl w.heap.size 88 i0 _ 2 32 Tryz.underlying33 hi0 hz0 hz1 hz2 rfl (by decide) (.slice q4 (i + 1) d4) (i + 1) (fldC (fs.take i ++ [(a, b)])) (by go_simp) (by have h9 := HO5.out; unfold OwnF at h9; rw [HLt1.out] at h9; exact h9) q5 d5 (by go_simp) HQ5.out (by unfold maxLen; omega) (by omega) HB5.out.size ?_; intro v' w8 hown hgr; obtain ⟨q8, d8, rfl⟩ := own_slice hown; have HB8 := hid (HB5.out.trans (OwnF.below HO5.out HB5.out.size hgr)); have HFr := hid (show FAt w8 q8 (fs.take i ++ [(a, b)] ++ []) from by rw [List.append_nil]; exact OwnF.fat (show OwnF w8 w.heap.size (.slice q8 (i + 1) d8) (fs.take i ++ [(a, b)]) from by unfold OwnF; rw [HLt1.out]; exact hown)); clear hown hgr) | (go_at_call 75; (with_reducible refine (HOw.out _ _ _ HFr.out).mono ?_); rintro e w9 ⟨rfl, hbk, hb⟩; have HB9 := hid (below_out HB8.out hb); have HK9 := hid hbk; clear hb hbk HOw))
        go_ret
        exact ⟨_, _, rfl, HLn.out, HB8.out.size, HK9.out, HB9.out⟩
    · have HMp := hid (show 0 < m from by omega)
      have hcne : ¬ c = i + 1 := by omega
      go_enter Tryz.func79, Tryz.ntmps79
      go_wp2_with (first | (go_at_call 77; (with_reducible refine (HNa.out _).mono ?_); rintro e w1 ⟨rfl, hw1⟩; subst w1; clear HNa) | (go_at_call 118; (with_reducible refine HIx.out.mono ?_); rintro e w2 ⟨I, rfl, hI, hb⟩; have HB2 := hid (below_out HB0.out hb); obtain rfl := HYs.out I hI; have HC2 := hid (cell_keep hb HC0.out); clear hb HIx) | (go_at_call 80; (with_reducible refine (HAh.out _).mono ?_); rintro e w3 ⟨rfl, hw3⟩; subst w3; clear HAh) | (at_builtin; refine wpList_append_grows (w2.alloc (.cells #[.string N, .string V] 88 (0, 0))) rfl (.tmp 23) (.tmp 27) 33 rfl 88 i0 _ 2 32 Tryz.underlying33 hi0 hz0 hz1 hz2 rfl (by decide) (some ⟨g, o, none⟩) i i (fldC (fs.take i)) (by go_simp) (fun h => by cases h) (by rw [fldC_len, HLt.out]) (fun b e => by cases e; exact HNw.out _ (below_out HB2.out (below_new _ _))) ⟨w2.heap.size, 0, none⟩ 1 1 [.string N, .string V] (by go_simp) rfl (cells_new w2 _ _) (by simp [Value.oneCell']) (by omega) (by unfold maxLen; omega) (by omega) ?_; intro v' w4 hown hgr; obtain ⟨q4, d4, rfl⟩ := own_slice hown; have HB4 := hid (below_out (below_out HB2.out (below_new w2 _)) (below_grown hgr)); have HC4 := hid (cell_keep (below_grown hgr) (cell_keep (below_new w2 _) HC2.out)); have HO4 := hid (show OwnF w4 w.heap.size (.slice q4 (i + 1) d4) (fs.take i ++ [(a, b)]) from OwnF.lowW (OwnF.appW (A := fs.take i) (C := [(a, b)]) HLt.out rfl (by rw [HPc.out]; exact hown)) (below_out HB2.out (below_new w2 _)).size); clear hown hgr HNw) | (go_at_call 76; (with_reducible refine (HWo.out _ HB4.out HC4.out).mono ?_); rintro e w5 ⟨v5, rfl, ho, hb⟩; have HB5 := hid (below_out HB4.out hb); have HO5 := hid (HO4.out.keep hb); obtain ⟨g5, d5, rfl⟩ : ∃ g d, v5 = .slice (some ⟨g, 0, none⟩) m d := (by have h9 := ownF_some ho (by rw [HLx.out]; exact HMp.out); rw [HLx.out] at h9; exact h9); have HF5 := hid (OwnF.fat ho); clear hb ho HWo) | (at_builtin; clear HPc; refine wpList_append_own_at _ rfl (.tmp 29) (.tmp 35) 33 rfl w.heap.size 88 i0 _ 2 32 Tryz.underlying33 hi0 hz0 hz1 hz2 rfl (by decide) (.slice q4 (i + 1) d4) (i + 1) (fldC (fs.take i ++ [(a, b)])) (by go_simp) (by have h9 := HO5.out; unfold OwnF at h9; rw [HLt1.out] at h9; exact h9) ⟨g5, 0, none⟩ m d5 (fldC X) (by go_simp) (by rw [fldC_len, HLx.out]) HF5.out.newsW (fldC_oneW X) (by unfold maxLen; omega) (by omega) HB5.out.size ?_; intro v' w8 hown hgr _ _; obtain ⟨q8, d8, rfl⟩ := own_slice hown; have HB8 := hid (HB5.out.trans (OwnF.below HO5.out HB5.out.size hgr)); have HFr := hid (OwnF.fat (show OwnF w8 w.heap.size (.slice q8 (i + 1 + m) d8) (fs.take i ++ [(a, b)] ++ X) from OwnF.appW HLt1.out HLx.out hown)); clear hown hgr) | (go_at_call 75; (with_reducible refine (HOw.out _ _ _ HFr.out).mono ?_); rintro e w9 ⟨rfl, hbk, hb⟩; have HB9 := hid (below_out HB8.out hb); have HK9 := hid hbk; clear hb hbk HOw))
      go_ret
      exact ⟨_, _, rfl, HLn.out, HB8.out.size, HK9.out, HB9.out⟩
  · have hAll := idx_all fs (str a) hex _ (Nat.le_refl _)
    have hSe : setB fs (str a) (a, b) = fs ++ [(a, b)] := by unfold setB; rw [if_neg (by rw [get_no hAll]; decide)]
    rw [hSe]
    have HNo := hid (show ∀ I, idxI fs (str a) I → I = -1 from fun I h => (idx_no h hex).1)
    have HAd := hid (show ∀ W : World, Below w.heap.size w W → _ from fun W hbb => padd_any fs p n c hn hc hc0p a b W (hF.next hbb) hsz ha hb hnn hpl)
    clear hex hAll hSe hF hsz hn hc0 has ha hb
    go_enter Tryz.func79, Tryz.ntmps79
    go_wp2_with (first | (go_at_call 77; (with_reducible refine (HNa.out _).mono ?_); rintro e w1 ⟨rfl, hw1⟩; subst w1; clear HNa) | (go_at_call 118; (with_reducible refine HIx.out.mono ?_); rintro e w2 ⟨I, rfl, hI, hb⟩; have HB2 := hid (below_out HB0.out hb); obtain rfl := HNo.out I hI; clear hb HIx) | (go_at_call 42; (with_reducible refine (HAd.out _ HB2.out).mono ?_); rintro e w9 ⟨g9, m9, rfl, hl9, hg9, hbk, hb⟩; have HB9 := hid (below_out HB2.out hb); have HK9 := hid hbk; have HG9 := hid (Nat.le_trans HB2.out.size hg9); have HL9 := hid hl9; clear hb hbk hg9 hl9 HAd))
    go_ret
    exact ⟨_, _, rfl, HL9.out, HG9.out, HK9.out, HB9.out⟩
end Go.Proofs.YtnlmjlfoeodleaaGreatDoor
