/- Names and values of a query: plain functions; rows of fields; the program's word and pair. -/
import Derived.Test.YtbdbmlklijmefaaDoorPWorks
namespace Go.Proofs.YtbdbmlklijmefaaDoor
open Go.RowKit

/-! ### Plus is a blank -/
theorem plus_none {s : B} (h : ∀ y ∈ s, y ≠ (43 : UInt8)) : s.map plusC = s := by
  conv => rhs; rw [← List.map_id s]
  exact List.map_congr_left fun y hy => by unfold plusC; rw [if_neg (h y hy)]; rfl
theorem replace_plus : ∀ (k : Nat) (s : B), Lib.count s [43] = k → Lib.replaceK [43] [32] k s = s.map plusC
  | 0, s, h => by
    rw [Lib.count_one] at h
    rw [Lib.replaceK, plus_none]
    intro y hy e
    rw [e] at hy
    have := List.count_pos_iff.2 hy
    omega
  | k + 1, s, h => by
    have hx : Lib.index s [43] = Lib.indexByte s 43 := Lib.index_one s 43
    have hge := Lib.indexByte_ge s 43
    have hm : Lib.index s [43] ≠ -1 := fun e => by rw [Lib.count_miss e] at h; omega
    obtain ⟨i, hi⟩ : ∃ i : Nat, Lib.index s [43] = i := ⟨(Lib.index s [43]).toNat, by omega⟩
    have hc := Lib.count_hit (by simp) hi
    have hd : Lib.count (s.drop (i + 1)) [43] = k := by
      rw [h] at hc
      simp only [List.length_cons, List.length_nil, Nat.zero_add] at hc
      omega
    rw [Lib.replaceK_hit _ _ _ _ i hi]
    simp only [List.length_cons, List.length_nil, Nat.zero_add]
    rw [replace_plus k _ hd]
    rw [hx] at hi
    obtain ⟨h1, h2⟩ := byte_hit 43 s i hi
    conv => rhs; rw [h2]
    rw [List.map_append, List.map_cons, plus_none h1]
    simp [plusC]
theorem replaceAll_plus (s : B) : Lib.replaceAll s [43] [32] = s.map plusC := by
  unfold Lib.replaceAll Lib.replace Lib.replaceNum
  rw [if_neg (by decide), if_pos (.inl (by decide))]
  exact replace_plus _ s rfl
/-! ### Made of anything and codes -/
abbrev madeA : B → Bool := madeP anyC anyC
theorem made_less {p : UInt8 → Bool} : ∀ s : B, madeP p anyC s = true → madeA s = true
  | [], _ => rfl
  | [c], h => by
    simp only [madeP, anyC, Bool.and_eq_true, Bool.and_true] at h ⊢
    exact h.1
  | [c, d], h => by
    simp only [madeP, anyC, Bool.and_eq_true, Bool.and_true] at h ⊢
    exact ⟨h.1.1, h.2.1⟩
  | c :: a :: b :: r, h => by
    show madeP anyC anyC (c :: a :: b :: r) = true
    rw [madeP] at h ⊢
    split
    · rename_i hc
      rw [if_pos hc] at h
      cases hv : codeOf c a b with
      | none => rw [hv] at h; cases h
      | some v =>
        rw [hv] at h
        simp only [Bool.and_eq_true] at h ⊢
        exact ⟨rfl, made_less r h.2⟩
    · rename_i hc
      rw [if_neg hc, Bool.and_eq_true] at h
      rw [Bool.and_eq_true]
      exact ⟨rfl, made_less (a :: b :: r) h.2⟩
theorem query_any {q : B} (h : isQuery q = true) : madeA q = true := by rw [← query_made] at h; exact made_less q h
theorem code_hex {x y : UInt8} (h : hexN y = none) : codeOf 37 x y = none ∧ codeOf 37 y x = none := by
  unfold codeOf
  rw [if_pos rfl, if_pos rfl, h]
  cases hexN x <;> exact ⟨rfl, rfl⟩
theorem madeA_plain {c : UInt8} (h : c ≠ 37) (l : B) : madeA (c :: l) = madeA l := by
  show madeP anyC anyC (c :: l) = _
  rw [madeP_plain h]
  simp [anyC]
theorem made_split {x : UInt8} (hx : x ≠ 37) (hh : hexN x = none) : ∀ (a b : B), madeA (a ++ x :: b) = (madeA a && madeA b)
  | [], b => by
    rw [List.nil_append, madeA_plain hx]
    rfl
  | [c], b => by
    by_cases hc : c = 37
    · subst hc
      have e1 : madeA [37] = false := rfl
      rw [e1, Bool.false_and]
      cases b with
      | nil => rfl
      | cons d r =>
        show madeP anyC anyC (37 :: x :: d :: r) = false
        rw [madeP, if_pos rfl, (code_hex hh).2]
    · rw [List.singleton_append, madeA_plain hc, madeA_plain hx]
      simp [madeP, anyC, hc]
  | [c, d], b => by
    by_cases hc : c = 37
    · subst hc
      have e1 : madeA [37, d] = false := by simp [madeP]
      rw [e1, Bool.false_and]
      show madeP anyC anyC (37 :: d :: x :: b) = false
      rw [madeP, if_pos rfl, (code_hex hh).1]
    · have ih := made_split hx hh [d] b
      rw [List.cons_append, madeA_plain hc, madeA_plain hc]
      exact ih
  | c :: d :: e :: r, b => by
    by_cases hc : c = 37
    · subst hc
      have ih := made_split hx hh r b
      show madeP anyC anyC (37 :: d :: e :: (r ++ x :: b)) = (madeP anyC anyC (37 :: d :: e :: r) && _)
      rw [madeP, madeP, if_pos rfl, if_pos rfl]
      cases hv : codeOf 37 d e with
      | none => rfl
      | some v =>
        simp only [anyC, Bool.true_and]
        exact ih
    · have ih := made_split hx hh (d :: e :: r) b
      rw [List.cons_append, madeA_plain hc, madeA_plain hc]
      exact ih
theorem cut_made {x : UInt8} (hx : x ≠ 37) (hh : hexN x = none) {s : B} (h : madeA s = true) : madeA (cutF x s).1 = true ∧ madeA (cutF x s).2.1 = true := by
  obtain ⟨_, h2, h3⟩ := cutF_spec x s
  cases hb : (cutF x s).2.2 with
  | true =>
    rw [hb] at h2
    simp only [if_true] at h2
    rw [h2, made_split hx hh, Bool.and_eq_true] at h
    exact h
  | false =>
    rw [hb] at h2
    simp only [Bool.false_eq_true, if_false, List.append_nil] at h2
    rw [h3 hb]
    exact ⟨by rw [← h2]; exact h, rfl⟩
set_option maxRecDepth 100000 in
theorem plus_hex (c : UInt8) : hexN (plusC c) = hexN c ∧ (plusC c = 37 ↔ c = 37) := all256 (P := fun c => hexN (plusC c) = hexN c ∧ (plusC c = 37 ↔ c = 37)) (by decide +kernel) c
theorem plus_code (a b : UInt8) : codeOf 37 (plusC a) (plusC b) = codeOf 37 a b := by
  unfold codeOf
  rw [(plus_hex a).1, (plus_hex b).1]
theorem plus_37 : plusC 37 = 37 := by decide
theorem made_plus : ∀ s : B, madeA (s.map plusC) = madeA s
  | [] => rfl
  | [c] => by
    simp only [List.map_cons, List.map_nil, madeP, anyC, Bool.and_true]
    rw [Bool.eq_iff_iff]
    simp only [ne_eq, decide_eq_true_eq]
    exact not_congr (plus_hex c).2
  | [c, d] => by
    simp only [List.map_cons, List.map_nil, madeP, anyC, Bool.and_true]
    rw [Bool.eq_iff_iff]
    simp only [ne_eq, decide_eq_true_eq, Bool.and_eq_true]
    exact and_congr (not_congr (plus_hex c).2) (not_congr (plus_hex d).2)
  | c :: a :: b :: r => by
    by_cases hc : c = 37
    · subst hc
      show madeP anyC anyC (plusC 37 :: plusC a :: plusC b :: r.map plusC) = madeP anyC anyC (37 :: a :: b :: r)
      rw [plus_37, madeP, madeP, if_pos rfl, if_pos rfl, plus_code]
      have ih := made_plus r
      cases codeOf 37 a b with
      | none => rfl
      | some v => simp only [anyC, Bool.true_and]; exact ih
    · have ih := made_plus (a :: b :: r)
      rw [List.map_cons, madeA_plain (fun e => hc ((plus_hex c).2.1 e)), madeA_plain hc]
      exact ih
def wordP (s : B) : B := decP (s.map plusC)
theorem word_form {s : B} (h : madeA s = true) : wordP s = formB s := by
  unfold wordP formB
  rw [dec_get ((made_plus s).trans h)]
def pairP (p : B) : B × B := (wordP (cutF 61 p).1, wordP (cutF 61 p).2.1)
theorem pair_form {p : B} (h : madeA p = true) : pairP p = pairB p := by
  obtain ⟨h1, h2⟩ := cut_made (x := 61) (by decide) (by decide) h
  unfold pairP pairB
  rw [word_form h1, word_form h2]
theorem come_true (s : B) (out : List (B × B)) : pairsL (comeQ (cutF 38 s).2.1 (cutF 38 s).2.2) out = pairsL (comeQ (cutF 38 s).2.1 true) out := by
  cases hb : (cutF 38 s).2.2 with
  | true => rfl
  | false =>
    rw [(cutF_spec 38 s).2.2 hb]
    rw [(pairs_end out).1, (pairs_end out).2]
/-! ### Rows of fields -/
def fldC (fs : List (B × B)) : List Value := fs.flatMap fun f => [.string (str f.1), .string (str f.2)]
theorem fldC_len (fs : List (B × B)) : (fldC fs).length = fs.length * 2 := by
  induction fs with
  | nil => rfl
  | cons f l ih => simp [fldC] at ih ⊢; omega
theorem fldC_app (a b : List (B × B)) : fldC (a ++ b) = fldC a ++ fldC b := by simp [fldC]
/-- A row of fields of one's own. -/
def OwnF (w : World) (base : Nat) (v : Value) (fs : List (B × B)) : Prop := w.ownsRow base 71 2 v fs.length (fldC fs)
theorem OwnF.nil (w : World) (base : Nat) : OwnF w base (.slice none 0 0) [] := ⟨rfl, .inl ⟨rfl, rfl⟩⟩
theorem OwnF.put {w' : World} {base : Nat} {v' : Value} {acc : List (B × B)} {f : B × B} (h : w'.ownsRow base 71 2 v' (acc.length + 1) (fldC acc ++ [.string (str f.1), .string (str f.2)])) : OwnF w' base v' (acc ++ [f]) := by
  unfold OwnF
  rw [List.length_append, fldC_app]
  exact h
theorem OwnF.below {w w' : World} {base : Nat} {v : Value} {acc : List (B × B)} (h : OwnF w base v acc) (hb : base ≤ w.heap.size) (hg : w.grownBy w' v.ownBlock) : Below base w w' :=
  ⟨hg.os, hg.tape, hg.output, hg.size, fun k hk => hg.block k (Nat.lt_of_lt_of_le hk hb) (fun e => by have := own_ge h e.symm; omega)⟩
theorem OwnF.keep {w w' : World} {base : Nat} {v : Value} {acc : List (B × B)} (h : OwnF w base v acc) (hb : Below w.heap.size w w') : OwnF w' base v acc := by
  refine ⟨h.1, ?_⟩
  rcases h.2 with h1 | ⟨g, cap, cur, h1, h2, h3, h4⟩
  · exact .inl h1
  · exact .inr ⟨g, cap, cur, h1, h2, (hb.block g (lt_of_heap h3)).trans h3, h4⟩
theorem OwnF.alloc {w : World} {base : Nat} {v : Value} {acc : List (B × B)} (h : OwnF w base v acc) (o : Obj) : OwnF (w.alloc o) base v acc := h.keep (below_new w o)
theorem infoF : (Tryd.prog.info? 71).map (fun i => (i.zero, i.size, i.bytes)) = some (some (.agg #[.string ⟨#[]⟩, .string ⟨#[]⟩]), 2, 32) := by kernel_rfl
theorem fldC_at : ∀ (fs : List (B × B)) (j : Nat) (f : B × B), fs[j]? = some f → (fldC fs)[2 * j]? = some (.string (str f.1)) ∧ (fldC fs)[2 * j + 1]? = some (.string (str f.2))
  | [], j, f, h => by simp at h
  | x :: l, 0, f, h => by
    simp at h
    subst h
    simp [fldC]
  | x :: l, j + 1, f, h => by
    obtain ⟨h1, h2⟩ := fldC_at l j f (by simpa using h)
    have e : fldC (x :: l) = .string (str x.1) :: .string (str x.2) :: fldC l := rfl
    rw [e, show 2 * (j + 1) = 2 * j + 1 + 1 by omega]
    simp only [List.getElem?_cons_succ]
    exact ⟨h1, h2⟩
theorem OwnF.at {w : World} {base n c j : Nat} {p : Option Addr} {fs : List (B × B)} {f : B × B} (h : OwnF w base (.slice p n c) fs) (hj : fs[j]? = some f) : ∃ g o, p = some ⟨g, o, none⟩ ∧ w.cell? ⟨g, o + 2 * j, none⟩ = some (.string (str f.1)) ∧ w.cell? ⟨g, o + 2 * j + 1, none⟩ = some (.string (str f.2)) := by
  have hlt : j < fs.length := (List.getElem?_eq_some_iff.1 hj).1
  obtain ⟨k1, k2⟩ := fldC_at fs j f hj
  rcases h.2 with ⟨h1, h2⟩ | ⟨g, cap, cur, h1, h2, h3, h4, _, h6, h7⟩
  · omega
  · refine ⟨g, 0, by cases h1; rfl, ?_, ?_⟩
    · rw [← h7, List.getElem?_take, if_pos (by omega)] at k1
      simp only [Nat.zero_add]
      simp only [World.cell?, h3]
      simpa using k1
    · rw [← h7, List.getElem?_take, if_pos (by omega)] at k2
      simp only [Nat.zero_add]
      simp only [World.cell?, h3]
      simpa using k2
/-! ### The program's word and pair -/
set_option maxRecDepth 20000 in
set_option maxHeartbeats 8000000 in
theorem pword_any (s : B) (hs : s.length ≤ 4194304) (w : World) (hE : Env w) : Calls Tryd.prog 72 #[.string (str s)] w fun e w' => e = .returned (.string (str (wordP s))) ∧ Below w.heap.size w w' := by
  have HRe := hid (show ∀ w, Env w → Calls Tryd.prog 85 #[.string (str s), .string ⟨#[43]⟩, .string ⟨#[32]⟩] w fun e w' => e = .returned (.string (str (s.map plusC))) ∧ Below w.heap.size w w' from fun w hE => by
    obtain ⟨m, hm⟩ := hE.most
    have hle := Lib.countB_le ⟨#[43]⟩ (Nat.le_refl 1) _ (str s) (Nat.le_refl _)
    rw [str_size] at hle
    refine (Tryd.strings_ReplaceAll (str s) ⟨#[43]⟩ ⟨#[32]⟩ m w (by rw [str_size]; omega) hm (Nat.le_refl 1) (by rw [str_size, show (⟨#[32]⟩ : ByteArray).size = 1 from rfl]; omega)).mono ?_
    rintro e w' ⟨rfl, hb⟩
    refine ⟨?_, hb⟩
    rw [show Lib.replaceAll (str s).data.toList (⟨#[43]⟩ : ByteArray).data.toList (⟨#[32]⟩ : ByteArray).data.toList = s.map plusC from replaceAll_plus s])
  have HDe := hid (decoded_any (s.map plusC) (by rw [List.length_map]; omega))
  have HE := hid hE
  have HV := hid (show wordP s = decP (s.map plusC) from rfl)
  rw [HV.out]
  obtain ⟨S, hS⟩ : ∃ S, str s = S := ⟨_, rfl⟩
  obtain ⟨M, hM⟩ : ∃ M, str (s.map plusC) = M := ⟨_, rfl⟩
  rw [hS] at HRe ⊢
  rw [hM] at HRe HDe
  clear hS hM hE hs
  go_enter Tryd.func72, Tryd.ntmps72
  go_wp2_with (first | (go_at_call 85; (with_reducible refine (HRe.out _ HE.out).mono ?_); rintro e w1 ⟨rfl, hb⟩; have HB1 := hid hb; clear hb) | (go_at_call 43; (with_reducible refine (HDe.out _).mono ?_); rintro e w2 ⟨rfl, hb⟩; have HB2 := hid (below_out HB1.out hb); clear hb))
  go_ret
  exact ⟨rfl, HB2.out⟩
theorem fld_size : (Tryd.prog.info? 71).map (·.size) = some 2 := by kernel_rfl
theorem results_fld {fn : Func} {p : Tmp} (h : fn.results = #[.cell p 71]) (tmps : Array Value) (w : World) (g : Nat) (t : TypeId) (cs : Array Value) (fr : Nat × Nat)
    (hp : tmps.getD p undef = .pointer (some ⟨g, 0, none⟩)) (hg : w.heap[g]? = some (.cells cs t fr)) (hs : cs.size = 2) : (results fn tmps).run Tryd.prog w = .ok (.agg cs) w := by
  exact results_cell_row h tmps w g t cs fr _ hp hg Tryd.underlying71 rfl (by rw [fld_size, hs])
abbrev Z2 : Obj := .cells #[.string ⟨#[]⟩, .string ⟨#[]⟩] 71 (0, 0)
structure FW (w W : World) : Prop where
  o : W.heap[w.heap.size]? = some Z2
  low : Below w.heap.size w W
theorem FW.start (w : World) : FW w (w.alloc Z2) := ⟨heap_alloc_new w _, below_new w _⟩
theorem FW.below {w W V : World} (h : FW w W) (hb : Below W.heap.size W V) : FW w V := ⟨(hb.block _ (lt_of_heap h.o)).trans h.o, below_out h.low hb⟩
theorem FW.out {w W : World} (h : FW w W) (a0 a1 : Value) : Below w.heap.size w ((W.setCell ⟨w.heap.size, 0, none⟩ a0).setCell ⟨w.heap.size, 1, none⟩ a1) := by
  iterate 2 refine Below.setCell ?_ (show w.heap.size ≤ w.heap.size from Nat.le_refl _) _
  exact h.low
theorem FW.facts {w W : World} (h : FW w W) : W.cell? ⟨w.heap.size, 0, none⟩ = some (.string ⟨#[]⟩) ∧ W.cell? ⟨w.heap.size, 1, none⟩ = some (.string ⟨#[]⟩) ∧ W.frozen? ⟨w.heap.size, 0, none⟩ = false ∧ W.frozen? ⟨w.heap.size, 1, none⟩ = false := by
  simp [World.cell?, World.frozen?, h.o]
theorem two_put {w : World} {g : Nat} {T : TypeId} {fr : Nat × Nat} {x0 x1 : Value} (h : w.heap[g]? = some (.cells #[x0, x1] T fr)) (c0 c1 : Value) : ((w.setCell ⟨g, 0, none⟩ c0).setCell ⟨g, 1, none⟩ c1).heap[g]? = some (.cells #[c0, c1] T fr) := by
  simp [World.setCell, Array.getElem?_modify, h]
set_option maxRecDepth 20000 in
set_option maxHeartbeats 8000000 in
theorem ppair_any (s : B) (hs : s.length ≤ 4194304) (w : World) (hE : Env w) : Calls Tryd.prog 49 #[.string (str s)] w fun e w' => e = .returned (.agg #[.string (str (pairP s).1), .string (str (pairP s).2)]) ∧ Below w.heap.size w w' := by
  obtain ⟨A, Q, K, hc⟩ : ∃ A Q K, cutF 61 s = (A, Q, K) := ⟨_, _, _, rfl⟩
  have HCt := hid (pcut_any 61 s (by omega))
  have hl := cutF_len 61 s
  rw [hc] at HCt hl
  dsimp only at HCt hl
  have HW1 := hid (pword_any A (by omega))
  have HW2 := hid (pword_any Q (by omega))
  have HV := hid (show pairP s = (wordP A, wordP Q) from by unfold pairP; rw [hc])
  rw [HV.out]
  dsimp only
  have HE := hid hE
  have HT0 := hid (FW.start w)
  have HE0 := hid (hE.below (below_new w Z2))
  obtain ⟨S, hS⟩ : ∃ S, str s = S := ⟨_, rfl⟩
  obtain ⟨SA, hSA⟩ : ∃ SA, str A = SA := ⟨_, rfl⟩
  obtain ⟨SQ, hSQ⟩ : ∃ SQ, str Q = SQ := ⟨_, rfl⟩
  obtain ⟨TA, hTA⟩ : ∃ TA, str (wordP A) = TA := ⟨_, rfl⟩
  obtain ⟨TQ, hTQ⟩ : ∃ TQ, str (wordP Q) = TQ := ⟨_, rfl⟩
  rw [hS] at HCt ⊢
  rw [hSA] at HCt HW1
  rw [hSQ] at HCt HW2
  rw [hTA] at HW1 ⊢
  rw [hTQ] at HW2 ⊢
  clear hS hSA hSQ hTA hTQ hl hc hE hs
  go_enter Tryd.func49, Tryd.ntmps49
  go_wp2_with (first | (go_at_call 48; (with_reducible refine (HCt.out _ HE0.out).mono ?_); rintro e w1 ⟨rfl, hb⟩; have HT1 := hid (HT0.out.below hb); have HE1 := hid (HE.out.below HT1.out.low); clear hb) | (go_at_call 72; (with_reducible refine (HW1.out _ HE1.out).mono ?_); rintro e w3 ⟨rfl, hb⟩; have HT3 := hid (HT1.out.below hb); have HE3 := hid (HE.out.below HT3.out.low); clear hb) | (go_at_call 72; (with_reducible refine (HW2.out _ HE3.out).mono ?_); rintro e w4 ⟨rfl, hb⟩; have HT4 := hid (HT3.out.below hb); obtain ⟨x0, x1, oz0, oz1⟩ := HT4.out.facts; clear hb))
  (try simp only [Exit.inBlock, Exit.then])
  refine bodyPost_ret (results_fld rfl _ _ _ 71 _ (0, 0) rfl (two_put HT4.out.o _ _) rfl) rfl ?_
  exact ⟨rfl, HT4.out.out _ _⟩
end Go.Proofs.YtbdbmlklijmefaaDoor
