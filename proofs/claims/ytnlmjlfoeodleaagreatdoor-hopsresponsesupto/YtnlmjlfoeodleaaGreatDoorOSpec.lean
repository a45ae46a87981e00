/- Fields with one set, one more, one gone: the program. -/
import Derived.Test.YtnlmjlfoeodleaaGreatDoorWGb
import Derived.ArgAppend
import Derived.Maps.AppendAt
import Derived.Laws.AppendOwnNone
import Derived.Test.YtnlmjlfoeodleaaGreatDoorCList
namespace Go.Proofs.YtnlmjlfoeodleaaGreatDoor
open Go.RowKit

/-- The fields with one in the place of the first of a name, the others of that name gone. -/
def setR (nm : ByteArray) (x : B × B) : Bool → List (B × B) → List (B × B)
  | _, [] => []
  | d, f :: l => if isF nm f = true then (if d = true then setR nm x d l else x :: setR nm x true l) else f :: setR nm x d l
def delB (fs : List (B × B)) (nm : ByteArray) : List (B × B) := fs.filter (fun f => !isF nm f)
def setB (fs : List (B × B)) (nm : ByteArray) (x : B × B) : List (B × B) := if (getB fs nm).2 = true then setR nm x false fs else fs ++ [x]
theorem setR_true (nm : ByteArray) (x : B × B) : ∀ l, setR nm x true l = delB l nm
  | [] => rfl
  | f :: l => by
    unfold setR delB
    rw [List.filter_cons]
    cases h : isF nm f with
    | true => simp; exact setR_true nm x l
    | false => simp; exact setR_true nm x l
theorem setR_at {nm : ByteArray} {x : B × B} : ∀ {fs : List (B × B)} {i : Nat} {f : B × B}, noneTo fs nm i → fs[i]? = some f → isF nm f = true → setR nm x false fs = fs.take i ++ [x] ++ delB (fs.drop (i + 1)) nm
  | [], i, f, _, h, _ => by simp at h
  | y :: l, 0, f, _, h, hf => by
    simp at h
    subst h
    unfold setR
    rw [if_pos hf, if_neg (by decide), setR_true]
    rfl
  | y :: l, i + 1, f, hn, h, hf => by
    have hy : isF nm y = false := hn y (by simp)
    unfold setR
    rw [if_neg (by rw [hy]; decide), setR_at (i := i) (fun g hg => hn g (by simp [hg])) (by simpa using h) hf]
    rfl
theorem get_yes {fs : List (B × B)} {nm : ByteArray} {i : Nat} {f : B × B} (hn : noneTo fs nm i) (h : fs[i]? = some f) (hf : isF nm f = true) : (getB fs nm).2 = true := by unfold getB; rw [findF_at hn h hf]
theorem get_no {fs : List (B × B)} {nm : ByteArray} (hn : noneTo fs nm fs.length) : (getB fs nm).2 = false := by unfold getB; rw [findF_none rfl hn]
theorem del_le (fs : List (B × B)) (nm : ByteArray) : (delB fs nm).length ≤ fs.length := List.length_filter_le _ _
theorem szW_app {a b : List (B × B)} (ha : szW a) (hb : szW b) : szW (a ++ b) := fun f hf => (List.mem_append.1 hf).elim (ha f) (hb f)
theorem szW_one {x : B × B} (h : x.1.length ≤ 140737488351232 ∧ x.2.length ≤ 140737488351232) : szW [x] := fun f hf => by simp at hf; rw [hf]; exact h
theorem szW_del {fs : List (B × B)} (nm : ByteArray) (h : szW fs) : szW (delB fs nm) := fun f hf => h f (List.mem_filter.1 hf).1
theorem szW_take {fs : List (B × B)} (i : Nat) (h : szW fs) : szW (fs.take i) := fun f hf => h f (List.mem_of_mem_take hf)
theorem szW_drop {fs : List (B × B)} (i : Nat) (h : szW fs) : szW (fs.drop i) := fun f hf => h f (List.mem_of_mem_drop hf)
theorem FAt.takeW {w : World} {p : Option Addr} {fs : List (B × B)} (h : FAt w p fs) (i : Nat) : FAt w p (fs.take i) := fun j f hj => h j f (by
  rw [List.getElem?_take] at hj
  split at hj
  · exact hj
  · cases hj)
theorem FAt.dropW {w : World} {g o : Nat} {fs : List (B × B)} (h : FAt w (some ⟨g, o, none⟩) fs) (i : Nat) : FAt w (some ⟨g, o + i * 2, none⟩) (fs.drop i) := fun j f hj => by
  rw [List.getElem?_drop] at hj
  obtain ⟨g', o', e, c0, c1⟩ := h (i + j) f hj
  cases e
  refine ⟨g, o + i * 2, rfl, ?_, ?_⟩
  · rw [show o + i * 2 + j * 2 = o + (i + j) * 2 by omega]; exact c0
  · rw [show o + i * 2 + j * 2 + 1 = o + (i + j) * 2 + 1 by omega]; exact c1
theorem FAt.newsW {w : World} {ad : Addr} {fs : List (B × B)} (h : FAt w (some ad) fs) : ∀ j u, (fldC fs)[j]? = some u → w.cell? (ad.add j) = some u := by
  intro j u hj
  have hlt : j < (fldC fs).length := (List.getElem?_eq_some_iff.1 hj).1
  rw [fldC_len] at hlt
  have hi : j / 2 < fs.length := by omega
  obtain ⟨g, o, e, c0, c1⟩ := h (j / 2) _ (List.getElem?_eq_getElem hi)
  obtain ⟨f0, f1⟩ := fldC_at fs (j / 2) _ (List.getElem?_eq_getElem hi)
  cases e
  have hadd : ∀ j, (⟨g, o, none⟩ : Addr).add j = ⟨g, o + j, none⟩ := fun j => by unfold Addr.add; split <;> simp_all
  rw [hadd]
  rcases Nat.mod_two_eq_zero_or_one j with hm | hm
  · have hj2 : j = 2 * (j / 2) := by omega
    rw [hj2] at hj
    rw [f0] at hj
    cases hj
    rw [show o + j = o + j / 2 * 2 by omega]
    exact c0
  · have hj2 : j = 2 * (j / 2) + 1 := by omega
    rw [hj2] at hj
    rw [f1] at hj
    cases hj
    rw [show o + j = o + j / 2 * 2 + 1 by omega]
    exact c1
theorem fldC_oneW (fs : List (B × B)) : ∀ u ∈ fldC fs, u.oneCell' = true := by
  intro u hu
  unfold fldC at hu
  rw [List.mem_flatMap] at hu
  obtain ⟨f, _, hu⟩ := hu
  simp at hu
  rcases hu with rfl | rfl <;> rfl
theorem wpList_append_emptyW {P : Program} (w : World) {ops : Array Oper} {rest : List Oper} {o : Oper} {a : Act} {Q : Exit → Act → World → Prop} (hgd : o.guard = none) (s x : Operand) (t : TypeId)
    (ho : o.op = .call { callee := .builtin .append, args := #[s, x], argTypes := #[t, t] })
    (base : Nat) (e : TypeId) (i : TypeInfo) (z : Value) (size bytes : Nat) (ht : P.underlying t = some (.slice e)) (hi : P.info? e = some i) (hz : i.zero = some z)
    (hsize : i.size = size) (hby : i.bytes = bytes) (hzs : z.cells.size = size) (hsz : 0 < size)
    (v : Value) (n : Nat) (xs : List Value) (hs : a.eval s = v) (hown : w.ownsRow base e size v n xs)
    (q : Option Addr) (d : Nat) (hx : a.eval x = .slice q 0 d) (hq : (q = none ∧ d = 0) ∨ ∃ ad, q = some ad)
    (h63 : n ≤ maxLen) (hbytes : n * bytes ≤ 140737488355328) (hbase : base ≤ w.heap.size)
    (h : ∀ v' w', w'.ownsRow base e size v' n xs → w.grownBy w' v.ownBlock → wpList P ops Q rest (a.put o.dst v') w') : wpList P ops Q (o :: rest) a w := by
  rcases hq with ⟨rfl, rfl⟩ | ⟨ad, rfl⟩
  · exact wpList_append_own_none hgd s x t ho base e i size ht hi v n xs hs hown hx (h v w hown (World.grownBy.refl w _))
  · refine wpList_append_own_at w hgd s x t ho base e i z size bytes ht hi hz hsize hby hzs hsz v n xs hs hown ad 0 d [] hx (by simp) (fun j u hj => by simp at hj) (fun u hu => by simp at hu) (by simpa using h63) (by simpa using hbytes) hbase ?_
    intro v' w' h1 h2 _ _
    rw [Nat.add_zero, List.append_nil] at h1
    exact h v' w' h1 h2
theorem ownF_empty {W : World} {b : Nat} {v : Value} (h : OwnF W b v []) : ∃ q d, v = .slice q 0 d ∧ ((q = none ∧ d = 0) ∨ ∃ ad, q = some ad) := by
  rcases h.2 with ⟨h1, _⟩ | ⟨g, cap, cur, h1, _⟩
  · exact ⟨none, 0, h1, .inl ⟨rfl, rfl⟩⟩
  · exact ⟨_, _, h1, .inr ⟨_, rfl⟩⟩
theorem ownF_some {W : World} {b : Nat} {v : Value} {fs : List (B × B)} (h : OwnF W b v fs) (h0 : 0 < fs.length) : ∃ g d, v = .slice (some ⟨g, 0, none⟩) fs.length d := by
  rcases h.2 with ⟨_, h1⟩ | ⟨g, cap, cur, h1, _⟩
  · omega
  · exact ⟨g, cap, h1⟩
theorem OwnF.lowW {w : World} {b b' : Nat} {v : Value} {acc : List (B × B)} (h : OwnF w b v acc) (hb : b' ≤ b) : OwnF w b' v acc :=
  ⟨h.1, h.2.imp id (fun ⟨g, cap, cur, a, c, r⟩ => ⟨g, cap, cur, a, Nat.le_trans hb c, r⟩)⟩
theorem OwnF.appW {w : World} {b m : Nat} {v : Value} {A C : List (B × B)} {k : Nat} (hm : A.length = m) (hk : C.length = k) (h : w.ownsRow b 88 2 v (m + k) (fldC A ++ fldC C)) : OwnF w b v (A ++ C) := by
  unfold OwnF
  rw [fldC_app, List.length_append, hm, hk]
  exact h
set_option maxRecDepth 20000 in
set_option maxHeartbeats 4000000 in
theorem ahead_any (g o n c i : Nat) (hi : i ≤ c) (w : World) : Calls Tryz.prog 80 #[.slice (some ⟨g, o, none⟩) n c, .int .i64 (i : Int)] w fun e w' => e = .returned (.slice (some ⟨g, o, none⟩) i i) ∧ w' = w := by
  have h1 : (i : Int) ≤ (c : Int) := by omega
  go_enter Tryz.func80, Tryz.ntmps80
  go_wp2
  go_ret
  exact ⟨rfl, rfl⟩
end Go.Proofs.YtnlmjlfoeodleaaGreatDoor
/- Fields from hop to hop, in plain lists: what Connection names, what goes further. -/
namespace Go.Proofs.YtnlmjlfoeodleaaGreatDoor
open Go.RowKit

def lowB (b : B) : B := b.map smallU
theorem lowS_str (b : B) : lowS (str b) = str (lowB b) := by
  unfold lowS lowL lowB str
  rfl
theorem smallU_idem (x : UInt8) : smallU (smallU x) = smallU x := by
  unfold smallU
  by_cases h : 65 ≤ x.toNat ∧ x.toNat ≤ 90
  · rw [if_pos h]
    have h2 : (UInt8.ofNat (x.toNat + 32)).toNat = x.toNat + 32 := by rw [UInt8.toNat_ofNat']; omega
    rw [if_neg (by rw [h2]; omega)]
  · rw [if_neg h, if_neg h]
theorem lowB_idem (b : B) : lowB (lowB b) = lowB b := by
  unfold lowB
  rw [List.map_map]
  congr 1
  funext x
  exact smallU_idem x
theorem str_eq_iff (a b : B) : str a = str b ↔ a = b := ⟨fun h => str_inj h, fun h => by rw [h]⟩
theorem same_low (a b : B) : sameB (str a) (str b) = decide (lowB a = lowB b) := by
  unfold sameB
  rw [lowS_str, lowS_str]
  exact decide_eq_decide.2 (str_eq_iff _ _)
/-- The names that a row of elements adds. -/
def addN : List B → List B → List B
  | ns, [] => ns
  | ns, e :: l => addN (if ns.contains (lowB e) then ns else ns ++ [lowB e]) l
def connB : B := [67, 111, 110, 110, 101, 99, 116, 105, 111, 110]
def hostB : B := [104, 111, 115, 116]
/-- The names that Connection names. -/
def namF : List B → List (B × B) → List B
  | ns, [] => ns
  | ns, f :: l => namF (if isF (str connB) f then addN ns (listL f.2) else ns) l
def lowAll (ns : List B) : Prop := ∀ n ∈ ns, lowB n = n
theorem addN_low : ∀ (l ns : List B), lowAll ns → lowAll (addN ns l)
  | [], _, h => h
  | e :: l, ns, h => by
    unfold addN
    refine addN_low l _ ?_
    split
    · exact h
    · intro n hn
      rcases List.mem_append.1 hn with h1 | h1
      · exact h n h1
      · simp at h1; rw [h1]; exact lowB_idem e
theorem namF_low : ∀ (fs : List (B × B)) (ns : List B), lowAll ns → lowAll (namF ns fs)
  | [], _, h => h
  | f :: l, ns, h => by
    unfold namF
    refine namF_low l _ ?_
    split
    · exact addN_low _ _ h
    · exact h
theorem addN_len : ∀ (l ns : List B), (addN ns l).length ≤ ns.length + l.length
  | [], ns => by unfold addN; simp
  | e :: l, ns => by
    unfold addN
    have h := addN_len l (if ns.contains (lowB e) then ns else ns ++ [lowB e])
    have h2 : (if ns.contains (lowB e) = true then ns else ns ++ [lowB e]).length ≤ ns.length + 1 := by
      split
      · omega
      · simp
    simp only [List.length_cons]
    omega
theorem cutL_cnt : ∀ (l : List UInt8), (cutL l).length ≤ l.length + 1
  | [] => by simp [cutL]
  | b :: l => by
    have ih := cutL_cnt l
    unfold cutL
    split
    · simp only [List.length_cons]; omega
    · split
      · simp
      · rename_i p r h
        rw [h] at ih
        simp only [List.length_cons] at ih ⊢
        omega
theorem listL_cnt (l : B) : (listL l).length ≤ l.length + 1 := by
  unfold listL
  refine Nat.le_trans (List.length_filter_le _ _) ?_
  rw [List.length_map]
  exact cutL_cnt l
/-- Whether a small name is one of those that never go further. -/
def hopB (x : B) : Bool := x == [99, 111, 110, 110, 101, 99, 116, 105, 111, 110] || x == [107, 101, 101, 112, 45, 97, 108, 105, 118, 101] || x == [117, 112, 103, 114, 97, 100, 101] || x == [112, 114, 111, 120, 121, 45, 99, 111, 110, 110, 101, 99, 116, 105, 111, 110] || x == [112, 114, 111, 120, 121, 45, 97, 117, 116, 104, 101, 110, 116, 105, 99, 97, 116, 101] || x == [112, 114, 111, 120, 121, 45, 97, 117, 116, 104, 111, 114, 105, 122, 97, 116, 105, 111, 110] || x == [116, 101] || x == [116, 114, 97, 105, 108, 101, 114] || x == [116, 114, 97, 110, 115, 102, 101, 114, 45, 101, 110, 99, 111, 100, 105, 110, 103]
def endB (ns : List B) (nm : B) : Bool := if hopB (lowB nm) = true then false else if lowB nm = hostB then true else !ns.contains (lowB nm)
def stripF (fs : List (B × B)) : List (B × B) := fs.filter (fun f => endB (namF [] fs) f.1)
def inB (nm : B) (l : List B) : Bool := l.any (fun e => sameB (str nm) (str e))
def alwaysL : List B := [[67, 111, 110, 110, 101, 99, 116, 105, 111, 110], [75, 101, 101, 112, 45, 65, 108, 105, 118, 101], [80, 114, 111, 120, 121, 45, 67, 111, 110, 110, 101, 99, 116, 105, 111, 110], [80, 114, 111, 120, 121, 45, 65, 117, 116, 104, 101, 110, 116, 105, 99, 97, 116, 101], [80, 114, 111, 120, 121, 45, 65, 117, 116, 104, 111, 114, 105, 122, 97, 116, 105, 111, 110], [84, 69], [84, 114, 97, 105, 108, 101, 114], [84, 114, 97, 110, 115, 102, 101, 114, 45, 69, 110, 99, 111, 100, 105, 110, 103], [85, 112, 103, 114, 97, 100, 101]]
theorem inB_low (nm : B) : ∀ (ns : List B), lowAll ns → inB nm ns = ns.contains (lowB nm)
  | [], _ => rfl
  | n :: l, h => by
    have ih := inB_low nm l (fun m hm => h m (List.mem_cons_of_mem _ hm))
    unfold inB at ih ⊢
    rw [List.any_cons, ih, List.contains_cons, same_low, h n (List.mem_cons_self ..)]
    congr 1
    exact Bool.eq_iff_iff.2 ⟨fun h => by simpa using h, fun h => by simpa using h⟩
theorem in_always (nm : B) : inB nm alwaysL = hopB (lowB nm) := by
  unfold inB alwaysL hopB
  simp only [List.any_cons, List.any_nil, same_low]
  have e : ∀ (l x : B), decide (lowB nm = lowB l) = (lowB nm == lowB l) := fun l x => Bool.eq_iff_iff.2 (by simp)
  rw [Bool.eq_iff_iff]
  simp only [Bool.or_eq_true, decide_eq_true_eq, beq_iff_eq, Bool.or_false]
  have l0 : lowB [67, 111, 110, 110, 101, 99, 116, 105, 111, 110] = [99, 111, 110, 110, 101, 99, 116, 105, 111, 110] := by decide
  have l1 : lowB [75, 101, 101, 112, 45, 65, 108, 105, 118, 101] = [107, 101, 101, 112, 45, 97, 108, 105, 118, 101] := by decide
  have l2 : lowB [80, 114, 111, 120, 121, 45, 67, 111, 110, 110, 101, 99, 116, 105, 111, 110] = [112, 114, 111, 120, 121, 45, 99, 111, 110, 110, 101, 99, 116, 105, 111, 110] := by decide
  have l3 : lowB [80, 114, 111, 120, 121, 45, 65, 117, 116, 104, 101, 110, 116, 105, 99, 97, 116, 101] = [112, 114, 111, 120, 121, 45, 97, 117, 116, 104, 101, 110, 116, 105, 99, 97, 116, 101] := by decide
  have l4 : lowB [80, 114, 111, 120, 121, 45, 65, 117, 116, 104, 111, 114, 105, 122, 97, 116, 105, 111, 110] = [112, 114, 111, 120, 121, 45, 97, 117, 116, 104, 111, 114, 105, 122, 97, 116, 105, 111, 110] := by decide
  have l5 : lowB [84, 69] = [116, 101] := by decide
  have l6 : lowB [84, 114, 97, 105, 108, 101, 114] = [116, 114, 97, 105, 108, 101, 114] := by decide
  have l7 : lowB [84, 114, 97, 110, 115, 102, 101, 114, 45, 69, 110, 99, 111, 100, 105, 110, 103] = [116, 114, 97, 110, 115, 102, 101, 114, 45, 101, 110, 99, 111, 100, 105, 110, 103] := by decide
  have l8 : lowB [85, 112, 103, 114, 97, 100, 101] = [117, 112, 103, 114, 97, 100, 101] := by decide
  simp only [l0, l1, l2, l3, l4, l5, l6, l7, l8]
  constructor
  · rintro (h | h | h | h | h | h | h | h | h) <;> simp [h]
  · rintro ((((((((h | h) | h) | h) | h) | h) | h) | h) | h) <;> simp [h]
theorem strip_doc (ns : List B) (hl : lowAll ns) (nm : B) : (inB nm alwaysL || (inB nm ns && !sameB (str nm) (str [72, 111, 115, 116]))) = !endB ns nm := by
  rw [in_always, inB_low nm ns hl, same_low]
  unfold endB
  rw [show lowB [72, 111, 115, 116] = hostB from by decide]
  by_cases h1 : hopB (lowB nm) = true
  · rw [h1]; rfl
  · rw [if_neg h1, Bool.not_eq_true _ |>.mp h1]
    by_cases h2 : lowB nm = hostB
    · rw [if_pos h2, decide_eq_true h2]; simp
    · rw [if_neg h2, decide_eq_false h2]; simp
end Go.Proofs.YtnlmjlfoeodleaaGreatDoor
