/- The host of a request in plain lists: cut at the first colon, or read byte by byte: the same. -/
import Derived.Test.YthakldcfpndabaaGreatDoorBase
namespace Go.Proofs.YthakldcfpndabaaGreatDoor

def hostB (c : UInt8) : Bool := (97 ≤ c.toNat && c.toNat ≤ 122) || (65 ≤ c.toNat && c.toNat ≤ 90) || (48 ≤ c.toNat && c.toNat ≤ 57) || c == 45 || c == 46 || c == 95
/-- The program: cut at the first colon. -/
def hostP (ok : B → Bool) (v : B) : Option (B × B) :=
  let h := v.takeWhile (fun c => c != 58)
  let p := v.drop (h.length + 1)
  if h ≠ [] ∧ h.all hostB = true ∧ (p = [] ∨ ok p = true) then some (h, p) else none
/-- The document: bytes of a host, then a colon and a number, or nothing. -/
def hostD (ok : B → Bool) (v : B) : Option (B × B) :=
  let n := (v.takeWhile hostB).length
  if n = 0 then none else if n = v.length then some (v, []) else if v[n]? ≠ some 58 then none else
    if v.drop (n + 1) ≠ [] ∧ ok (v.drop (n + 1)) = false then none else some (v.take n, v.drop (n + 1))
theorem host58 : hostB 58 = false := by decide
theorem hostB_ne {c : UInt8} (h : hostB c = true) : (c != 58) = true := by
  cases h2 : (c != 58) with
  | true => rfl
  | false => have : c = 58 := by simpa using h2
             rw [this, host58] at h; cases h
theorem takeWhile_app {p : UInt8 → Bool} : ∀ (a : B) (r : B), (∀ c ∈ a, p c = true) → (a ++ r).takeWhile p = a ++ r.takeWhile p
  | [], _, _ => rfl
  | x :: a, r, h => by
    rw [List.cons_append, List.takeWhile_cons, if_pos (h x (by simp)), takeWhile_app a r (fun c hc => h c (by simp [hc]))]
    rfl
theorem mem_takeWhile {p : UInt8 → Bool} : ∀ (l : B) {c : UInt8}, c ∈ l.takeWhile p → p c = true
  | [], c, h => by simp at h
  | x :: l, c, h => by
    rw [List.takeWhile_cons] at h
    split at h
    · rename_i hx
      rcases List.mem_cons.1 h with rfl | h
      · exact hx
      · exact mem_takeWhile l h
    · simp at h
theorem host_same (ok : B → Bool) (v : B) : hostP ok v = hostD ok v := by
  obtain ⟨a, ha⟩ : ∃ a, v.takeWhile hostB = a := ⟨_, rfl⟩
  obtain ⟨r, hr⟩ : ∃ r, v.dropWhile hostB = r := ⟨_, rfl⟩
  have hv : v = a ++ r := by rw [← ha, ← hr]; exact List.takeWhile_append_dropWhile.symm
  have hall : ∀ c ∈ a, hostB c = true := fun c hc => mem_takeWhile v (by rw [ha]; exact hc)
  have hne : ∀ c ∈ a, (c != 58) = true := fun c hc => hostB_ne (hall c hc)
  have hA : a.all hostB = true := List.all_eq_true.2 hall
  unfold hostD
  rw [ha]
  unfold hostP
  cases r with
  | nil =>
    rw [List.append_nil] at hv
    subst hv
    have hw : v.takeWhile (fun c => c != 58) = v := by
      have := takeWhile_app (p := fun c => c != 58) v [] hne
      simpa using this
    rw [hw]
    have hd : v.drop (v.length + 1) = [] := List.drop_eq_nil_of_le (by omega)
    simp only [hd]
    by_cases h0 : v = []
    · subst h0; simp
    · have hl : ¬ v.length = 0 := fun e => h0 (List.length_eq_zero_iff.1 e)
      simp [h0, hA, hl]
  | cons c t =>
    have hc : hostB c = false := by
      have h1 : (v.dropWhile hostB).head? = some c := by rw [hr]; rfl
      cases h2 : hostB c with
      | false => rfl
      | true =>
        have := List.head?_dropWhile_not hostB v
        rw [h1] at this
        simp [h2] at this
    subst hv
    have hg : (a ++ c :: t)[a.length]? = some c := by simp
    have hlen : ¬ a.length = (a ++ c :: t).length := by simp
    have htk : (a ++ c :: t).take a.length = a := by simp
    have hdr : (a ++ c :: t).drop (a.length + 1) = t := by
      rw [List.drop_append]
      simp
    dsimp only
    rw [hg, htk, hdr, if_neg hlen]
    by_cases h58 : c = 58
    · subst h58
      have hw : (a ++ 58 :: t).takeWhile (fun c => c != 58) = a := by
        rw [takeWhile_app a _ hne]
        simp
      rw [hw, hdr]
      by_cases h0 : a = []
      · subst h0; simp
      · have hl : ¬ a.length = 0 := fun e => h0 (List.length_eq_zero_iff.1 e)
        rw [if_neg hl]
        by_cases ht : t = []
        · subst ht; simp [h0, hA]
        · cases hk : ok t <;> simp [h0, hA, ht]
    · have hw : (a ++ c :: t).takeWhile (fun c => c != 58) = a ++ c :: t.takeWhile (fun c => c != 58) := by
        rw [takeWhile_app a _ hne]
        simp [h58]
      rw [hw]
      have hbad : (a ++ c :: t.takeWhile (fun c => c != 58)).all hostB = false := by simp [hc]
      simp [hc, h58]
end Go.Proofs.YthakldcfpndabaaGreatDoor
