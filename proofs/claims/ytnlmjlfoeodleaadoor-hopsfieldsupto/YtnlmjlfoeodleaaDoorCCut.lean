/- The pieces of a text between its commas, trimmed, empty ones left out: plain lists. -/
import Derived.Test.YtnlmjlfoeodleaaDoorCTrim
import Derived.Lib.SplitLaws
namespace Go.Proofs.YtnlmjlfoeodleaaDoor

def cutL : List UInt8 → List (List UInt8)
  | [] => [[]]
  | b :: l => if b = 44 then [] :: cutL l else match cutL l with
    | [] => [[b]]
    | p :: r => (b :: p) :: r
theorem cutL_ne (l : List UInt8) : cutL l ≠ [] := by
  cases l with
  | nil => simp [cutL]
  | cons b l => unfold cutL; split <;> (try split) <;> simp
theorem cutL_none : ∀ l : List UInt8, (∀ x ∈ l, x ≠ 44) → cutL l = [l]
  | [], _ => rfl
  | b :: l, h => by
    rw [cutL, if_neg (h b (by simp)), cutL_none l (fun x hx => h x (by simp [hx]))]
theorem cutL_at : ∀ (p l : List UInt8), (∀ x ∈ p, x ≠ 44) → cutL (p ++ 44 :: l) = p :: cutL l
  | [], l, _ => by rw [List.nil_append, cutL, if_pos rfl]
  | b :: p, l, h => by
    rw [List.cons_append, cutL, if_neg (h b (by simp)), cutL_at p l (fun x hx => h x (by simp [hx]))]

def listL (l : List UInt8) : List (List UInt8) := ((cutL l).map trimL).filter (fun p => !p.isEmpty)
def asB (l : List UInt8) : ByteArray := ⟨l.toArray⟩
def listS (s : ByteArray) : List ByteArray := (listL s.data.toList).map asB

theorem byte_miss : ∀ l : List UInt8, Lib.indexByte l 44 = -1 → ∀ x ∈ l, x ≠ 44
  | [], _, x, hx => by simp at hx
  | b :: l, h, x, hx => by
    unfold Lib.indexByte at h
    split at h
    · simp at h
    · rename_i hb
      split at h
      · rename_i h2
        rcases List.mem_cons.1 hx with rfl | hx
        · simpa using hb
        · exact byte_miss l (by simpa using h2) x hx
      · rename_i h2
        have := Lib.indexByte_ge l 44
        simp at h2
        omega
theorem byte_hit : ∀ (l : List UInt8) (i : Nat), Lib.indexByte l 44 = i → (∀ x ∈ l.take i, x ≠ 44) ∧ l = l.take i ++ 44 :: l.drop (i + 1)
  | [], i, h => by simp [Lib.indexByte] at h
  | b :: l, i, h => by
    unfold Lib.indexByte at h
    split at h
    · rename_i hb
      have hi : i = 0 := by omega
      subst hi
      have hb' : b = 44 := by simpa using hb
      subst hb'
      simp
    · rename_i hb
      split at h
      · omega
      · rename_i h2
        have := Lib.indexByte_ge l 44
        simp at h2
        obtain ⟨j, rfl⟩ : ∃ j, i = j + 1 := ⟨i - 1, by omega⟩
        obtain ⟨h3, h4⟩ := byte_hit l j (by omega)
        refine ⟨?_, ?_⟩
        · intro x hx
          rw [List.take_succ_cons] at hx
          rcases List.mem_cons.1 hx with rfl | hx
          · simpa using hb
          · exact h3 x hx
        · rw [List.take_succ_cons, List.drop_succ_cons, List.cons_append, ← h4]

def comma : ByteArray := { data := #[44] }
theorem split_cut : ∀ (n : Nat) (s : ByteArray), Lib.countB s comma = n → (Lib.splitB comma 0 n s).map (fun p => p.data.toList) = cutL s.data.toList
  | n, s, h => by
    have hx : Lib.indexB s comma = Lib.indexByte s.data.toList 44 := Lib.index_one s.data.toList 44
    by_cases hm : Lib.indexB s comma = -1
    · rw [Lib.splitB_miss _ _ _ _ hm]
      rw [hx] at hm
      rw [cutL_none _ (byte_miss _ hm)]; rfl
    · have hge := Lib.indexByte_ge s.data.toList 44
      obtain ⟨i, hi⟩ : ∃ i : Nat, Lib.indexB s comma = i := ⟨(Lib.indexB s comma).toNat, by omega⟩
      have hc := Lib.countB_hit s comma i (by decide) hi
      obtain ⟨m, rfl⟩ : ∃ m, n = m + 1 := ⟨n - 1, by omega⟩
      rw [Lib.splitB_hit _ _ _ _ _ hi]
      have hrec := split_cut m (s.extract (i + comma.size) s.size) (by omega)
      rw [List.map_cons, hrec]
      rw [hx] at hi
      obtain ⟨h1, h2⟩ := byte_hit _ _ hi
      have e := cutL_at (s.data.toList.take i) (s.data.toList.drop (i + 1)) h1
      rw [← h2] at e
      rw [e]
      have e1 : (s.extract 0 (i + 0)).data.toList = s.data.toList.take i := by simp
      have e2 : (s.extract (i + comma.size) s.size).data.toList = s.data.toList.drop (i + 1) := by
        rw [show comma.size = 1 from rfl]
        simp
        rw [List.take_of_length_le (by simp)]
      rw [e1, e2]
end Go.Proofs.YtnlmjlfoeodleaaDoor
