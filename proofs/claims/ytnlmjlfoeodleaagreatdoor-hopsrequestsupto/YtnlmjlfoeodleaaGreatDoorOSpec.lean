/- Fields from hop to hop, in plain lists: what Connection names, what goes further. -/
import Derived.Test.YtnlmjlfoeodleaaGreatDoorWGc
import Derived.Test.YtnlmjlfoeodleaaGreatDoorCList
namespace Go.Proofs.YtnlmjlfoeodleaaGreatDoor
open Go.RowKit

def lowB (b : B) : B := b.map smallU
theorem lowS_str (b : B) : lowS (str b) = str (lowB b) := by
  unfold lowS lowL lowB str
  rfl
theorem smallU_idem (x : UInt8) : smallU (smallU x) = smallU x := by
  unfold smallU
  by_cases h : 65 ≤ x.toNat ∧ x.toNat ≤ 90
  · rw [if_pos h]
    have h2 : (UInt8.ofNat (x.toNat + 32)).toNat = x.toNat + 32 := by rw [UInt8.toNat_ofNat']; omega
    rw [if_neg (by rw [h2]; omega)]
  · rw [if_neg h, if_neg h]
theorem lowB_idem (b : B) : lowB (lowB b) = lowB b := by
  unfold lowB
  rw [List.map_map]
  congr 1
  funext x
  exact smallU_idem x
theorem str_eq_iff (a b : B) : str a = str b ↔ a = b := ⟨fun h => str_inj h, fun h => by rw [h]⟩
theorem same_low (a b : B) : sameB (str a) (str b) = decide (lowB a = lowB b) := by
  unfold sameB
  rw [lowS_str, lowS_str]
  exact decide_eq_decide.2 (str_eq_iff _ _)
/-- The names that a row of elements adds. -/
def addN : List B → List B → List B
  | ns, [] => ns
  | ns, e :: l => addN (if ns.contains (lowB e) then ns else ns ++ [lowB e]) l
def connB : B := [67, 111, 110, 110, 101, 99, 116, 105, 111, 110]
def hostB : B := [104, 111, 115, 116]
/-- The names that Connection names. -/
def namF : List B → List (B × B) → List B
  | ns, [] => ns
  | ns, f :: l => namF (if isF (str connB) f then addN ns (listL f.2) else ns) l
def lowAll (ns : List B) : Prop := ∀ n ∈ ns, lowB n = n
theorem addN_low : ∀ (l ns : List B), lowAll ns → lowAll (addN ns l)
  | [], _, h => h
  | e :: l, ns, h => by
    unfold addN
    refine addN_low l _ ?_
    split
    · exact h
    · intro n hn
      rcases List.mem_append.1 hn with h1 | h1
      · exact h n h1
      · simp at h1; rw [h1]; exact lowB_idem e
theorem namF_low : ∀ (fs : List (B × B)) (ns : List B), lowAll ns → lowAll (namF ns fs)
  | [], _, h => h
  | f :: l, ns, h => by
    unfold namF
    refine namF_low l _ ?_
    split
    · exact addN_low _ _ h
    · exact h
theorem addN_len : ∀ (l ns : List B), (addN ns l).length ≤ ns.length + l.length
  | [], ns => by unfold addN; simp
  | e :: l, ns => by
    unfold addN
    have h := addN_len l (if ns.contains (lowB e) then ns else ns ++ [lowB e])
    have h2 : (if ns.contains (lowB e) = true then ns else ns ++ [lowB e]).length ≤ ns.length + 1 := by
      split
      · omega
      · simp
    simp only [List.length_cons]
    omega
theorem cutL_cnt : ∀ (l : List UInt8), (cutL l).length ≤ l.length + 1
  | [] => by simp [cutL]
  | b :: l => by
    have ih := cutL_cnt l
    unfold cutL
    split
    · simp only [List.length_cons]; omega
    · split
      · simp
      · rename_i p r h
        rw [h] at ih
        simp only [List.length_cons] at ih ⊢
        omega
theorem listL_cnt (l : B) : (listL l).length ≤ l.length + 1 := by
  unfold listL
  refine Nat.le_trans (List.length_filter_le _ _) ?_
  rw [List.length_map]
  exact cutL_cnt l
/-- Whether a small name is one of those that never go further. -/
def hopB (x : B) : Bool := x == [99, 111, 110, 110, 101, 99, 116, 105, 111, 110] || x == [107, 101, 101, 112, 45, 97, 108, 105, 118, 101] || x == [117, 112, 103, 114, 97, 100, 101] || x == [112, 114, 111, 120, 121, 45, 99, 111, 110, 110, 101, 99, 116, 105, 111, 110] || x == [112, 114, 111, 120, 121, 45, 97, 117, 116, 104, 101, 110, 116, 105, 99, 97, 116, 101] || x == [112, 114, 111, 120, 121, 45, 97, 117, 116, 104, 111, 114, 105, 122, 97, 116, 105, 111, 110] || x == [116, 101] || x == [116, 114, 97, 105, 108, 101, 114] || x == [116, 114, 97, 110, 115, 102, 101, 114, 45, 101, 110, 99, 111, 100, 105, 110, 103]
def endB (ns : List B) (nm : B) : Bool := if hopB (lowB nm) = true then false else if lowB nm = hostB then true else !ns.contains (lowB nm)
def stripF (fs : List (B × B)) : List (B × B) := fs.filter (fun f => endB (namF [] fs) f.1)
def inB (nm : B) (l : List B) : Bool := l.any (fun e => sameB (str nm) (str e))
def alwaysL : List B := [[67, 111, 110, 110, 101, 99, 116, 105, 111, 110], [75, 101, 101, 112, 45, 65, 108, 105, 118, 101], [80, 114, 111, 120, 121, 45, 67, 111, 110, 110, 101, 99, 116, 105, 111, 110], [80, 114, 111, 120, 121, 45, 65, 117, 116, 104, 101, 110, 116, 105, 99, 97, 116, 101], [80, 114, 111, 120, 121, 45, 65, 117, 116, 104, 111, 114, 105, 122, 97, 116, 105, 111, 110], [84, 69], [84, 114, 97, 105, 108, 101, 114], [84, 114, 97, 110, 115, 102, 101, 114, 45, 69, 110, 99, 111, 100, 105, 110, 103], [85, 112, 103, 114, 97, 100, 101]]
theorem inB_low (nm : B) : ∀ (ns : List B), lowAll ns → inB nm ns = ns.contains (lowB nm)
  | [], _ => rfl
  | n :: l, h => by
    have ih := inB_low nm l (fun m hm => h m (List.mem_cons_of_mem _ hm))
    unfold inB at ih ⊢
    rw [List.any_cons, ih, List.contains_cons, same_low, h n (List.mem_cons_self ..)]
    congr 1
    exact Bool.eq_iff_iff.2 ⟨fun h => by simpa using h, fun h => by simpa using h⟩
theorem in_always (nm : B) : inB nm alwaysL = hopB (lowB nm) := by
  unfold inB alwaysL hopB
  simp only [List.any_cons, List.any_nil, same_low]
  have e : ∀ (l x : B), decide (lowB nm = lowB l) = (lowB nm == lowB l) := fun l x => Bool.eq_iff_iff.2 (by simp)
  rw [Bool.eq_iff_iff]
  simp only [Bool.or_eq_true, decide_eq_true_eq, beq_iff_eq, Bool.or_false]
  have l0 : lowB [67, 111, 110, 110, 101, 99, 116, 105, 111, 110] = [99, 111, 110, 110, 101, 99, 116, 105, 111, 110] := by decide
  have l1 : lowB [75, 101, 101, 112, 45, 65, 108, 105, 118, 101] = [107, 101, 101, 112, 45, 97, 108, 105, 118, 101] := by decide
  have l2 : lowB [80, 114, 111, 120, 121, 45, 67, 111, 110, 110, 101, 99, 116, 105, 111, 110] = [112, 114, 111, 120, 121, 45, 99, 111, 110, 110, 101, 99, 116, 105, 111, 110] := by decide
  have l3 : lowB [80, 114, 111, 120, 121, 45, 65, 117, 116, 104, 101, 110, 116, 105, 99, 97, 116, 101] = [112, 114, 111, 120, 121, 45, 97, 117, 116, 104, 101, 110, 116, 105, 99, 97, 116, 101] := by decide
  have l4 : lowB [80, 114, 111, 120, 121, 45, 65, 117, 116, 104, 111, 114, 105, 122, 97, 116, 105, 111, 110] = [112, 114, 111, 120, 121, 45, 97, 117, 116, 104, 111, 114, 105, 122, 97, 116, 105, 111, 110] := by decide
  have l5 : lowB [84, 69] = [116, 101] := by decide
  have l6 : lowB [84, 114, 97, 105, 108, 101, 114] = [116, 114, 97, 105, 108, 101, 114] := by decide
  have l7 : lowB [84, 114, 97, 110, 115, 102, 101, 114, 45, 69, 110, 99, 111, 100, 105, 110, 103] = [116, 114, 97, 110, 115, 102, 101, 114, 45, 101, 110, 99, 111, 100, 105, 110, 103] := by decide
  have l8 : lowB [85, 112, 103, 114, 97, 100, 101] = [117, 112, 103, 114, 97, 100, 101] := by decide
  simp only [l0, l1, l2, l3, l4, l5, l6, l7, l8]
  constructor
  · rintro (h | h | h | h | h | h | h | h | h) <;> simp [h]
  · rintro ((((((((h | h) | h) | h) | h) | h) | h) | h) | h) <;> simp [h]
theorem strip_doc (ns : List B) (hl : lowAll ns) (nm : B) : (inB nm alwaysL || (inB nm ns && !sameB (str nm) (str [72, 111, 115, 116]))) = !endB ns nm := by
  rw [in_always, inB_low nm ns hl, same_low]
  unfold endB
  rw [show lowB [72, 111, 115, 116] = hostB from by decide]
  by_cases h1 : hopB (lowB nm) = true
  · rw [h1]; rfl
  · rw [if_neg h1, Bool.not_eq_true _ |>.mp h1]
    by_cases h2 : lowB nm = hostB
    · rw [if_pos h2, decide_eq_true h2]; simp
    · rw [if_neg h2, decide_eq_false h2]; simp
end Go.Proofs.YtnlmjlfoeodleaaGreatDoor
