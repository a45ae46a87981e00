/- What is read fits; what is not read is nothing. -/
import Derived.Test.YtkoeihliaandeaaGreatDoorRv
import Derived.Test.YtkoeihliaandeaaGreatDoorWorks
namespace Go.Proofs.YtkoeihliaandeaaGreatDoor
open Go.RowKit

theorem printL_mem (o : Bool) {x : JV} : ∀ (xs : List JV) (fi : Bool) (ns : List B), x ∈ xs → (printV x).length ≤ (printL o fi xs ns).length
  | [], _, _, h => by simp at h
  | y :: ys, fi, ns, h => by
    simp only [List.mem_cons] at h
    rw [printL_cons]
    simp only [List.length_append]
    rcases h with rfl | h
    · omega
    · have := printL_mem o ys false ns.tail h
      omega
theorem printL_names {z : B} : ∀ (xs : List JV) (fi : Bool) (ns : List B), ns.length = xs.length → z ∈ ns → z.length ≤ (printL true fi xs ns).length
  | [], _, ns, hl, h => by
    have : ns = [] := by simpa using hl
    subst this
    simp at h
  | y :: ys, fi, [], hl, h => by simp at h
  | y :: ys, fi, nm :: ns, hl, h => by
    simp only [List.mem_cons] at h
    rw [printL_cons]
    simp only [List.length_append, List.headD_cons, List.tail_cons, if_true]
    rcases h with rfl | h
    · have := quote_len z
      omega
    · have := printL_names ys false ns (by simpa using hl) h
      omega
mutual
theorem fits_print : ∀ t : JV, fault t = 0 → (printV t).length ≤ maxI → Fits t
  | .mk k b t n hh ls ns, h, hl => by
    obtain ⟨h1, _, h3⟩ := fault_zero h
    have flat : ls = [] → ns = [] → t.length ≤ maxI → Fits (.mk k b t n hh ls ns) := fun e1 e2 ht => by
      subst e1 e2
      exact fits_flat ht
    rcases formed_cases h1 with e | e | ⟨_, rfl, e⟩ | ⟨_, e⟩ | e | ⟨e0, _, e⟩
    · simp only [JV.mk.injEq] at e
      obtain ⟨_, _, rfl, _, _, e1, e2⟩ := e
      exact flat e1 e2 (Nat.zero_le _)
    · simp only [JV.mk.injEq] at e
      obtain ⟨_, _, rfl, _, _, e1, e2⟩ := e
      exact flat e1 e2 (Nat.zero_le _)
    · obtain ⟨i, h9, e9⟩ := num_mk t
      rw [e9] at e
      simp only [JV.mk.injEq] at e
      obtain ⟨_, _, _, _, _, e1, e2⟩ := e
      exact flat e1 e2 hl
    · simp only [JV.mk.injEq] at e
      obtain ⟨rfl, _, _, _, _, e1, e2⟩ := e
      refine flat e1 e2 ?_
      have hl2 : (quoteB t).length ≤ maxI := hl
      have := quote_len t
      omega
    · simp only [JV.mk.injEq] at e
      obtain ⟨rfl, _, rfl, _, _, _, rfl⟩ := e
      have hl2 : (91 :: (printL false true ls [] ++ [93])).length ≤ maxI := hl
      simp only [List.length_cons, List.length_append, List.length_nil] at hl2
      have hlen := printL_len false ls true [] h3
      simp only [Fits, fitsL_iff]
      exact ⟨Nat.zero_le _, by omega, Nat.zero_le _, by simp, fitss_print ls h3 (fun x hx => by have := printL_mem false ls true [] hx; omega)⟩
    · simp only [JV.mk.injEq] at e
      obtain ⟨rfl, _, rfl, _, _, _, _⟩ := e
      have hl2 : (123 :: (printL true true ls ns ++ [125])).length ≤ maxI := hl
      simp only [List.length_cons, List.length_append, List.length_nil] at hl2
      have hlen := printL_len true ls true ns h3
      simp only [Fits, fitsL_iff]
      exact ⟨Nat.zero_le _, by omega, by omega, fun z hz => by have := printL_names ls true ns e0 hz; omega, fitss_print ls h3 (fun x hx => by have := printL_mem true ls true ns hx; omega)⟩
theorem fitss_print : ∀ ls : List JV, (∀ x ∈ ls, fault x = 0) → (∀ x ∈ ls, (printV x).length ≤ maxI) → ∀ x ∈ ls, Fits x
  | [], _, _, x, h => by simp at h
  | y :: ys, hf, hl, x, h => by
    simp only [List.mem_cons] at h
    rcases h with rfl | h
    · exact fits_print x (hf x (by simp)) (hl x (by simp))
    · exact fitss_print ys (fun z hz => hf z (by simp [hz])) (fun z hz => hl z (by simp [hz])) x h
end
theorem valid_fault {t : JV} (h : validN t = 0) : fault t = 0 := by
  unfold validN at h
  split at h
  · cases h
  · exact h
/-- Where there is an error there is no value, and the place lies in the text. -/
theorem parse_zero {l : B} {v : JV} {n k : Nat} (h : parse l = (v, n, k)) (hk : k ≠ 0) : v = .zero ∧ n ≤ l.length := by
  unfold parse at h
  split at h
  · simp only [Prod.mk.injEq] at h
    exact ⟨h.1.symm, by omega⟩
  · split at h
    · simp only [Prod.mk.injEq] at h
      omega
    · simp only [Prod.mk.injEq] at h
      exact ⟨h.1.symm, by omega⟩
theorem parse_most {l : B} {v : JV} {n : Nat} (h : parse l = (v, n, 0)) : l.length ≤ 1048576 := by
  unfold parse at h
  split at h
  · simp at h
  · omega
theorem zero_fits : Fits .zero := fits_flat (Nat.zero_le _)
theorem str_of {S : ByteArray} {l : B} (h : S.data.toList = l) : str l = S := by
  apply ByteArray.ext
  apply Array.toList_inj.1
  rw [← h]
theorem keep7 {w1 w2 : World} {g : Nat} {a0 a1 a2 a3 a4 a5 a6 : Value} {T : TypeId} (h : w1.heap[g]? = some (.cells #[a0, a1, a2, a3, a4, a5, a6] T (0, 0))) (hb : Below w1.heap.size w1 w2) : w2.heap[g]? = some (.cells #[a0, a1, a2, a3, a4, a5, a6] T (0, 0)) := (hb.block g (lt_of_heap h)).trans h
theorem two_at {w W0 : World} {o1 o2 : Obj} (h : W0 = (w.alloc o1).alloc o2) : W0.heap[w.heap.size]? = some o1 ∧ W0.heap[w.heap.size + 1]? = some o2 ∧ Below w.heap.size w W0 := by
  subst h
  obtain ⟨a, b, c⟩ := two_new (w := w) (o1 := o1) (o2 := o2) (Below.refl _ _)
  exact ⟨a, b, c⟩
end Go.Proofs.YtkoeihliaandeaaGreatDoor
