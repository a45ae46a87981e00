/- What goes on of a request, in plain lists: nothing of one hop, everything else in its order. -/
import Derived.Test.YtnlmjlfoeodleaaDoorOReq
namespace Go.Proofs.YtnlmjlfoeodleaaDoor
open Go.RowKit

def hop10 : List B := alwaysL ++ [expB]
def hostU : B := [72, 111, 115, 116]
/-- Whether a name belongs to one hop, by itself or by Connection. -/
def hopN (ns : List B) (nm : B) : Bool := inB nm hop10 || (inB nm ns && !sameB (str nm) (str hostU))
def ownN (nm : B) : Bool := sameB (str nm) (str viaN) || sameB (str nm) (str xfB)
def keepE (ns : List B) (f : B × B) : Bool := !(hopN ns f.1 || inB f.1 [clB, xfB])
theorem in_one (nm a : B) : inB nm [a] = sameB (str nm) (str a) := by
  unfold inB
  simp
theorem in_two (nm a b : B) : inB nm [a, b] = (sameB (str nm) (str a) || sameB (str nm) (str b)) := by
  unfold inB
  simp
theorem in_hop10 (nm : B) : inB nm hop10 = (inB nm alwaysL || sameB (str nm) (str expB)) := by
  unfold hop10
  rw [← in_one nm expB]
  unfold inB
  rw [List.any_append]
theorem onQ1_filter (fs : List (B × B)) : onQ1 fs = fs.filter (fun f => endB (namF [] fs) f.1 && (!sameB (str f.1) (str expB) && (!sameB (str f.1) (str clB) && !sameB (str f.1) (str teB)))) := by
  unfold onQ1 framF frmA bareF delB stripF
  rw [if_neg (by decide), if_neg (by decide), List.append_nil, List.filter_filter, List.filter_filter, List.filter_filter]
  congr 1
  funext f
  unfold isF
  cases endB (namF [] fs) f.1 <;> cases sameB (str f.1) (str expB) <;> cases sameB (str f.1) (str clB) <;> cases sameB (str f.1) (str teB) <;> rfl
theorem end_no_hop {ns : List B} (hl : lowAll ns) {nm : B} (h : endB ns nm = true) (he : sameB (str nm) (str expB) = false) : hopN ns nm = false := by
  have h1 := strip_doc ns hl nm
  rw [h] at h1
  unfold hopN hostU
  rw [in_hop10, he, Bool.or_false]
  exact h1
theorem onQ1_ok {fs : List (B × B)} {f : B × B} (h : f ∈ onQ1 fs) : sameB (str f.1) (str clB) = false ∧ hopN (namF [] fs) f.1 = false := by
  rw [onQ1_filter] at h
  have h2 := (List.mem_filter.1 h).2
  have hlow : lowAll (namF [] fs) := namF_low fs [] (fun y hy => by cases hy)
  cases h3 : endB (namF [] fs) f.1 <;> cases h4 : sameB (str f.1) (str expB) <;> cases h5 : sameB (str f.1) (str clB) <;> simp [h3, h4, h5] at h2
  exact ⟨rfl, end_no_hop hlow h3 h4⟩
/-- What goes on is no field of one hop. -/
theorem onQ2_ok {fs : List (B × B)} {cl : B} {k : Int} {f : B × B} (h : f ∈ onQ2 fs cl k) : sameB (str f.1) (str clB) = false ∧ (hopN (namF [] fs) f.1 = false ∨ (inB f.1 hop10 = false ∧ ownN f.1 = true)) := by
  unfold onQ2 viaF at h
  rcases List.mem_append.1 h with h1 | h1
  · rcases mem_setB h1 with h2 | h2
    · exact ⟨(onQ1_ok h2).1, .inl (onQ1_ok h2).2⟩
    · subst h2
      exact ⟨show sameB (str xfB) (str clB) = false from by decide +kernel, .inr ⟨show inB xfB hop10 = false from by decide +kernel, show ownN xfB = true from by decide +kernel⟩⟩
  · simp at h1
    subst h1
    exact ⟨show sameB (str viaN) (str clB) = false from by decide +kernel, .inr ⟨show inB viaN hop10 = false from by decide +kernel, show ownN viaN = true from by decide +kernel⟩⟩
theorem law_no {ns : List B} {nm : B} (h : hopN ns nm = false ∨ (inB nm hop10 = false ∧ ownN nm = true)) : (inB nm hop10 || ((inB nm ns && !sameB (str nm) (str hostU)) && !ownN nm)) = false := by
  rcases h with h | ⟨h1, h2⟩
  · unfold hopN at h
    cases h1 : inB nm hop10 <;> cases h2 : inB nm ns <;> cases h3 : sameB (str nm) (str hostU) <;> simp [h1, h2, h3] at h ⊢
  · rw [h1, h2]
    simp
theorem onQ_ok {m : B} {fs : List (B × B)} {cl : B} {k L : Int} {f : B × B} (h : f ∈ onQ m fs cl k L) (hc : sameB (str f.1) (str clB) = false) : (inB f.1 hop10 || ((inB f.1 (namF [] fs) && !sameB (str f.1) (str hostU)) && !ownN f.1)) = false := by
  unfold onQ at h
  split at h
  · rcases List.mem_append.1 h with h1 | h1
    · exact law_no (onQ2_ok h1).2
    · simp at h1
      subst h1
      have h5 : sameB (str clB) (str clB) = true := by decide +kernel
      rw [show sameB (str (clB, Lib.itoa L).1) (str clB) = true from h5] at hc
      cases hc
  · exact law_no (onQ2_ok h).2
theorem onQ2_none (fs : List (B × B)) (cl : B) (k : Int) : (onQ2 fs cl k).filter (isF (str clB)) = [] := by
  rw [List.filter_eq_nil_iff]
  intro f hf
  have h := (onQ2_ok hf).1
  unfold isF
  rw [h]
  decide
theorem onQ_count (m : B) (fs : List (B × B)) (cl : B) (k L : Int) : ((onQ m fs cl k L).filter (isF (str clB))).length ≤ 1 := by
  unfold onQ
  split
  · rw [List.filter_append, onQ2_none, List.nil_append]
    exact List.length_filter_le _ _
  · rw [onQ2_none]
    exact Nat.zero_le _
theorem sub_filter {α : Type} {P Q : α → Bool} (h : ∀ x, P x = true → Q x = true) : ∀ l : List α, List.Sublist (l.filter P) (l.filter Q)
  | [] => List.Sublist.slnil
  | x :: l => by
    have ih := sub_filter h l
    by_cases hp : P x = true
    · rw [List.filter_cons_of_pos hp, List.filter_cons_of_pos (h x hp)]
      exact ih.cons_cons x
    · rw [List.filter_cons_of_neg hp]
      by_cases hq : Q x = true
      · rw [List.filter_cons_of_pos hq]
        exact ih.cons x
      · rw [List.filter_cons_of_neg hq]
        exact ih
theorem del_setR (nm : ByteArray) (x : B × B) : ∀ (l : List (B × B)) (d : Bool), List.Sublist (delB l nm) (setR nm x d l)
  | [], d => by unfold setR; exact List.Sublist.slnil
  | y :: l, d => by
    have ih := del_setR nm x l
    unfold delB at ih ⊢
    by_cases hy : isF nm y = true
    · rw [List.filter_cons_of_neg (by rw [hy]; decide)]
      cases d with
      | true => rw [setR_skip hy]; exact ih true
      | false => rw [setR_put hy]; exact (ih true).cons x
    · have hy' : isF nm y = false := by simpa using hy
      rw [List.filter_cons_of_pos (by rw [hy']; rfl), setR_no hy']
      exact (ih d).cons_cons y
theorem del_setB (nm : ByteArray) (x : B × B) (l : List (B × B)) : List.Sublist (delB l nm) (setB l nm x) := by
  unfold setB
  split
  · exact del_setR nm x l false
  · exact (List.filter_sublist ..).trans (List.sublist_append_left l [x])
/-- Everything else goes on, in its order. -/
theorem keep_sub (m : B) (fs : List (B × B)) (cl : B) (k L : Int) : List.Sublist (fs.filter (keepE (namF [] fs))) (onQ m fs cl k L) := by
  have h1 : List.Sublist (fs.filter (keepE (namF [] fs))) (delB (onQ1 fs) (str xfB)) := by
    rw [onQ1_filter]
    unfold delB
    rw [List.filter_filter]
    refine sub_filter (fun f hf => ?_) fs
    have hlow : lowAll (namF [] fs) := namF_low fs [] (fun y hy => by cases hy)
    have h2 := strip_doc (namF [] fs) hlow f.1
    unfold keepE hopN hostU at hf
    rw [in_hop10, in_two] at hf
    have h3 : sameB (str f.1) (str teB) = true → inB f.1 alwaysL = true := fun h => List.any_eq_true.2 ⟨teB, by unfold alwaysL teB; simp, h⟩
    unfold isF
    cases a1 : inB f.1 alwaysL <;> cases a2 : sameB (str f.1) (str expB) <;> cases a3 : sameB (str f.1) (str clB) <;> cases a4 : sameB (str f.1) (str xfB) <;> cases a5 : sameB (str f.1) (str teB) <;> simp [a1, a2, a3, a4, a5] at hf h2 h3 ⊢
    cases a6 : endB (namF [] fs) f.1 <;> cases a7 : inB f.1 (namF [] fs) <;> cases a8 : sameB (str f.1) (str [72, 111, 115, 116]) <;> simp [a6, a7, a8] at hf h2 ⊢
  have h2 := h1.trans (del_setB (str xfB) (xfB, fwdV (onQ1 fs) cl) (onQ1 fs))
  have h3 : List.Sublist (fs.filter (keepE (namF [] fs))) (onQ2 fs cl k) := h2.trans (List.sublist_append_left _ _)
  unfold onQ
  split
  · exact h3.trans (List.sublist_append_left _ _)
  · exact h3
theorem sub_step {α : Type} {x y : α} {l r : List α} (h : List.Sublist (x :: l) (y :: r)) (hne : x ≠ y) : List.Sublist (x :: l) r := by
  cases h with
  | cons _ h => exact h
  | cons_cons _ h => exact absurd rfl hne
theorem sub_take {α : Type} {x : α} {l r : List α} (h : List.Sublist (x :: l) (x :: r)) : List.Sublist l r := by
  cases h with
  | cons _ h => exact (List.sublist_cons_self x l).trans h
  | cons_cons _ h => exact h
theorem sub_lt {α : Type} {x : α} {l r : List α} {i : Nat} (h : List.Sublist (x :: l) (r.drop i)) : i < r.length := by
  have h1 := h.length_le
  rw [List.length_drop, List.length_cons] at h1
  omega
/-- Strip of Strip is it. -/
theorem strip_strip (fs : List (B × B)) : stripF (stripF fs) = stripF fs := by
  have hno : ∀ (l : List (B × B)) (ns : List B), (∀ f ∈ l, isF (str connB) f = false) → namF ns l = ns := by
    intro l
    induction l with
    | nil => intro ns _; rfl
    | cons f l ih =>
      intro ns h
      rw [namF_no (h f (List.mem_cons_self ..))]
      exact ih ns (fun g hg => h g (List.mem_cons_of_mem _ hg))
  have hall : ∀ f ∈ stripF fs, endB (namF [] fs) f.1 = true := fun f hf => (List.mem_filter.1 hf).2
  have hn : namF [] (stripF fs) = [] := hno _ [] (fun f hf => by
    have h1 := hall f hf
    cases h2 : isF (str connB) f with
    | false => rfl
    | true =>
      unfold isF at h2
      rw [same_low] at h2
      have h3 : lowB f.1 = lowB connB := of_decide_eq_true h2
      rw [end_hop (h3.trans (show lowB connB = [99, 111, 110, 110, 101, 99, 116, 105, 111, 110] from by decide)) (by decide)] at h1
      cases h1)
  have e : stripF (stripF fs) = (stripF fs).filter (fun f => endB [] f.1) := by
    conv => lhs; unfold stripF
    rw [show namF [] (fs.filter fun f => endB (namF [] fs) f.1) = [] from hn]
    rfl
  rw [e, List.filter_eq_self]
  intro f hf
  have h1 := hall f hf
  unfold endB at h1 ⊢
  by_cases h2 : hopB (lowB f.1) = true
  · rw [if_pos h2] at h1; cases h1
  · rw [if_neg h2]
    split
    · rfl
    · rfl
end Go.Proofs.YtnlmjlfoeodleaaDoor
