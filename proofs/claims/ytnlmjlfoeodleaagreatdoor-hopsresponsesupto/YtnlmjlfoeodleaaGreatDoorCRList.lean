/- Lists with commas, the document's; and whether two lists of texts are oneL. -/
import Derived.Test.YtnlmjlfoeodleaaGreatDoorCList
import Derived.Deep.QuietTactic
import Derived.BigQuiet
namespace Go.Proofs.YtnlmjlfoeodleaaGreatDoor
open Go.RowKit

def oneL (t : ByteArray) : List ByteArray := if t.size = 0 then [] else [t]
theorem listL_cut {p r : List UInt8} (h : ∀ x ∈ p, x ≠ 44) : (listL (p ++ 44 :: r)).map asB = oneL (trimS (asB p)) ++ (listL r).map asB := by
  unfold listL oneL
  rw [cutL_at p r h, List.map_cons]
  have e : trimS (asB p) = asB (trimL p) := rfl
  rw [e]
  have e2 : (asB (trimL p)).size = (trimL p).length := by simp [asB, ByteArray.size]
  by_cases hz : (trimL p).length = 0
  · have : trimL p = [] := List.eq_nil_of_length_eq_zero hz
    rw [e2, if_pos hz, this]; simp
  · have : (!(trimL p).isEmpty) = true := by
      cases hq : trimL p with
      | nil => simp [hq] at hz
      | cons a l => rfl
    rw [e2, if_neg hz]
    simp only [List.filter_cons, this]
    simp
theorem listL_last {p : List UInt8} (h : ∀ x ∈ p, x ≠ 44) : (listL p).map asB = oneL (trimS (asB p)) := by
  unfold listL oneL
  rw [cutL_none p h, List.map_cons]
  have e : trimS (asB p) = asB (trimL p) := rfl
  rw [e]
  have e2 : (asB (trimL p)).size = (trimL p).length := by simp [asB, ByteArray.size]
  by_cases hz : (trimL p).length = 0
  · have : trimL p = [] := List.eq_nil_of_length_eq_zero hz
    rw [e2, if_pos hz, this]; simp
  · have : (!(trimL p).isEmpty) = true := by
      cases hq : trimL p with
      | nil => simp [hq] at hz
      | cons a l => rfl
    rw [e2, if_neg hz]
    simp only [List.filter_cons, this]
    simp

def Scan (s : ByteArray) (k f : Nat) (G : List ByteArray) : Prop :=
  G.length ≤ k ∧ ((k ≤ s.size ∧ f ≤ k ∧ (∀ x ∈ (s.data.toList.drop f).take (k - f), x ≠ 44) ∧ G ++ (listL (s.data.toList.drop f)).map asB = listS s) ∨ (k = s.size + 1 ∧ G = listS s))
theorem Scan.start (s : ByteArray) : Scan s 0 0 [] := ⟨Nat.zero_le _, .inl ⟨Nat.zero_le _, Nat.le_refl _, by intro x hx; simp at hx, by simp [listS]⟩⟩
theorem Scan.le {s : ByteArray} {k f : Nat} {G : List ByteArray} (h : Scan s k f G) (hk : k ≤ s.size) : f ≤ k := by
  rcases h.2 with h | h <;> omega
theorem Scan.done {s : ByteArray} {k f : Nat} {G : List ByteArray} (h : Scan s k f G) (hk : ¬ k ≤ s.size) : G = listS s := by
  rcases h.2 with h | h
  · omega
  · exact h.2
theorem drop_take_succ (s : ByteArray) (f k : Nat) (h : k < s.size) (hf : f ≤ k) : (s.data.toList.drop f).take (k + 1 - f) = (s.data.toList.drop f).take (k - f) ++ [s[k]] := by
  rw [show k + 1 - f = (k - f) + 1 by omega, List.take_add_one, List.getElem?_drop, show f + (k - f) = k by omega, List.getElem?_eq_getElem (by simpa using h)]
  rfl
theorem Scan.on {s : ByteArray} {k f : Nat} {G : List ByteArray} (h : Scan s k f G) (hk : k < s.size) (hc : ¬ (s[k].toNat : Int) = 44) : Scan s (k + 1) f G := by
  rcases h with ⟨h0, ⟨h1, h2, h3, h4⟩ | h1⟩
  · refine ⟨by omega, .inl ⟨by omega, by omega, ?_, h4⟩⟩
    rw [drop_take_succ s f k hk h2]
    intro x hx
    rcases List.mem_append.1 hx with hx | hx
    · exact h3 x hx
    · rw [List.mem_singleton.1 hx]
      intro e; apply hc; rw [e]; rfl
  · omega
theorem ext_list (s : ByteArray) (f k : Nat) : (s.extract f k) = asB ((s.data.toList.drop f).take (k - f)) := by
  apply ByteArray.ext; apply Array.toList_inj.1
  simp [asB]
theorem one_len (t : ByteArray) : (oneL t).length ≤ 1 := by unfold oneL; split <;> simp
theorem Scan.cut {s : ByteArray} {k f : Nat} {G : List ByteArray} (h : Scan s k f G) (hk : k < s.size) (hc : (s[k].toNat : Int) = 44) : Scan s (k + 1) (k + 1) (G ++ oneL (trimS (s.extract f k))) := by
  rcases h with ⟨h0, ⟨h1, h2, h3, h4⟩ | h1⟩
  · refine ⟨by have := one_len (trimS (s.extract f k)); simp; omega, .inl ⟨by omega, Nat.le_refl _, by intro x hx; simp at hx, ?_⟩⟩
    have hsk : s[k] = 44 := UInt8.toNat_inj.1 (by have : s[k].toNat = 44 := by omega
                                                  rw [this]; rfl)
    have e : s.data.toList.drop f = (s.data.toList.drop f).take (k - f) ++ 44 :: s.data.toList.drop (k + 1) := by
      conv => lhs; rw [← List.take_append_drop (k - f) (s.data.toList.drop f)]
      rw [List.drop_drop, show f + (k - f) = k by omega, List.drop_eq_getElem_cons (show k < s.data.toList.length by simpa using hk)]
      congr 2
    have e2 := listL_cut (r := s.data.toList.drop (k + 1)) h3
    rw [← e] at e2
    rw [← h4, e2, ext_list, List.append_assoc]
  · omega
theorem Scan.last {s : ByteArray} {k f : Nat} {G : List ByteArray} (h : Scan s k f G) (hk : k = s.size) : Scan s (k + 1) (k + 1) (G ++ oneL (trimS (s.extract f k))) := by
  rcases h with ⟨h0, ⟨h1, h2, h3, h4⟩ | h1⟩
  · refine ⟨by have := one_len (trimS (s.extract f k)); simp; omega, .inr ⟨by omega, ?_⟩⟩
    rw [← h4, ext_list]
    have e : (s.data.toList.drop f).take (k - f) = s.data.toList.drop f := List.take_of_length_le (by simp; omega)
    rw [e] at h3 ⊢
    rw [listL_last h3]
  · omega

set_option maxRecDepth 20000 in
set_option maxHeartbeats 2000000 in
theorem rlist_any (s : ByteArray) (w : World) (hs : s.size ≤ 1048576) :
    Calls Tryz.prog 124 #[.string s] w fun e w' => ∃ v, e = .returned v ∧ w'.ownsRow w.heap.size 9 1 v (listS s).length ((listS s).map strVL) ∧ Below w.heap.size w w' := by
  obtain ⟨i0, hi, hz0, hz1, hz2⟩ := info_parts info9
  go_enter Tryz.func124, Tryz.ntmps124
  go_wp2
  go_loopw [3, 4, 5] (fun v fr i W => ∃ (k f : Nat) (G : List ByteArray), i = .int .i64 k ∧ fr = .int .i64 f ∧ k ≤ s.size + 1 ∧ f ≤ s.size + 1 ∧ W.ownsRow w.heap.size 9 1 v G.length (G.map strVL) ∧ Below w.heap.size w W ∧ Scan s k f G) (fun _ _ i _ => s.size + 1 - (intOf i).toNat)
  case atStart => exact ⟨0, 0, [], rfl, rfl, Nat.zero_le _, Nat.zero_le _, World.ownsRow_nil _ _ _ _, Below.refl _ _, Scan.start s⟩
  case round =>
    obtain ⟨k, f, G, rfl, rfl, hk, hf, hown, hbel, hI⟩ := hrel
    rename World => wr
    have hsz := hbel.size
    have hG := hI.1
    by_cases hle : k ≤ s.size
    · have hfk := hI.le hle
      have hx : (s.extract f k).size ≤ 281474976710656 := by simp [ByteArray.size_extract]; omega
      by_cases hcut : k = s.size ∨ ∃ h : k < s.size, (s[k].toNat : Int) = 44
      · have hN : Scan s (k + 1) (k + 1) (G ++ oneL (trimS (s.extract f k))) := by
          rcases hcut with h | ⟨h, hc⟩
          · exact hI.last h
          · exact hI.cut h hc
        by_cases ht : (trimS (s.extract f k)).size = 0
        · have hE : (trimS (s.extract f k)).toList.isEmpty = true := by rw [empty_size]; simpa using ht
          have e1 : oneL (trimS (s.extract f k)) = [] := by simp [oneL, ht]
          rw [e1, List.append_nil] at hN
          clear e1
          rcases hcut with rfl | ⟨h, hc⟩
          · go_wp2_with (go_at_call 133; refine (rtrim_any _ _ hx).mono ?_; rintro e w2 ⟨rfl, rfl⟩)
            go_roundw
            case rel => exact ⟨s.size + 1, s.size + 1, G, by go_num, by go_num, by omega, by omega, hown, hbel, hN⟩
            case measure => simp [intOf]; try omega
          · go_wp2_with (go_at_call 133; refine (rtrim_any _ _ hx).mono ?_; rintro e w2 ⟨rfl, rfl⟩)
            go_roundw
            case rel => exact ⟨k + 1, k + 1, G, by go_num, by go_num, by omega, by omega, hown, hbel, hN⟩
            case measure => simp [intOf]; try omega
        · have hE : (trimS (s.extract f k)).toList.isEmpty = false := by rw [empty_size]; simpa using ht
          have e1 : oneL (trimS (s.extract f k)) = [trimS (s.extract f k)] := by simp [oneL, ht]
          rw [e1] at hN
          clear e1
          rcases hcut with rfl | ⟨h, hc⟩
          · go_wp2_with (first
              | (go_at_call 133; refine (rtrim_any _ _ hx).mono ?_; rintro e w2 ⟨rfl, rfl⟩)
              | (at_builtin; refine wpList_append_own _ rfl _ _ 129 rfl w.heap.size 9 i0 (.string ByteArray.empty) 1 16 Tryz.underlying129 hi hz0 hz1 hz2 rfl (by decide) _ _ _ rfl (hown.alloc _) ⟨_, 0, none⟩ 1 1 [.string (trimS (s.extract f s.size))] rfl rfl (one_cellL _ _ _) (strs_plain _) (by unfold maxLen; omega) (by omega) (by simp; omega) ?_; intro v' w3 hown' hgrow _))
            have hb3 := app_belowL hbel hown hgrow
            go_wp2
            go_roundw
            case rel => exact ⟨s.size + 1, s.size + 1, _, by go_num, by go_num, by omega, by omega, by simpa [strVL] using hown', hb3, hN⟩
            case measure => simp [intOf]; try omega
          · go_wp2_with (first
              | (go_at_call 133; refine (rtrim_any _ _ hx).mono ?_; rintro e w2 ⟨rfl, rfl⟩)
              | (at_builtin; refine wpList_append_own _ rfl _ _ 129 rfl w.heap.size 9 i0 (.string ByteArray.empty) 1 16 Tryz.underlying129 hi hz0 hz1 hz2 rfl (by decide) _ _ _ rfl (hown.alloc _) ⟨_, 0, none⟩ 1 1 [.string (trimS (s.extract f k))] rfl rfl (one_cellL _ _ _) (strs_plain _) (by unfold maxLen; omega) (by omega) (by simp; omega) ?_; intro v' w3 hown' hgrow _))
            have hb3 := app_belowL hbel hown hgrow
            go_wp2
            go_roundw
            case rel => exact ⟨k + 1, k + 1, _, by go_num, by go_num, by omega, by omega, by simpa [strVL] using hown', hb3, hN⟩
            case measure => simp [intOf]; try omega
      · have hlt : k < s.size := by omega
        have hc : ¬ (s[k].toNat : Int) = 44 := fun h => hcut (.inr ⟨hlt, h⟩)
        have hN := hI.on hlt hc
        have hc' : ((s[k].toNat : Int) == 44) = false := by simpa using hc
        clear hcut
        go_wp2
        go_roundw
        case rel => exact ⟨k + 1, f, G, by go_num, rfl, by omega, by omega, hown, hbel, hN⟩
        case measure => simp [intOf]; try omega
    · have hD := hI.done hle
      go_wp2
      go_ret
      exact ⟨_, rfl, by rw [← hD]; exact hown, hbel⟩

theorem own_cellL {W : World} {B n : Nat} {v : Value} {L : List ByteArray} (h : W.ownsRow B 9 1 v n (L.map strVL)) (h0 : 0 < n) : ∃ g cap, v = .slice (some ⟨g, 0, none⟩) n cap ∧ ∀ j p, L[j]? = some p → W.cell? ⟨g, j, none⟩ = some (.string p) := by
  have hl : L.length = n := by have := h.1; simpa using this
  rcases h.2 with ⟨_, h'⟩ | ⟨g, cap, cur, rfl, _⟩
  · omega
  · refine ⟨g, cap, rfl, fun j p hp => ?_⟩
    have hj : j < L.length := by
      rcases Nat.lt_or_ge j L.length with h' | h'
      · exact h'
      · rw [List.getElem?_eq_none h'] at hp; cases hp
    rw [h.cellAt j (by omega)]
    simp [hp, strVL]
theorem own_lenL {W : World} {B n : Nat} {v : Value} {xs : List Value} (h : W.ownsRow B 9 1 v n xs) : ∃ a cap, v = .slice a n cap := by
  rcases h.2 with ⟨rfl, rfl⟩ | ⟨g, cap, cur, rfl, _⟩
  · exact ⟨none, 0, rfl⟩
  · exact ⟨_, _, rfl⟩

end Go.Proofs.YtnlmjlfoeodleaaGreatDoor
