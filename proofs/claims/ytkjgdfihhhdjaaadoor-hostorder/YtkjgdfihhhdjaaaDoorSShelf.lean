/- The library's functions that the program calls: Cut, Split, Clone. -/
import Derived.Test.YtkjgdfihhhdjaaaDoorSMem
import Derived.Test.YtkjgdfihhhdjaaaDoorShelf
import Derived.Lib.SplitLaws
import Derived.Lib.Strings
namespace Go.Proofs.YtkjgdfihhhdjaaaDoor
open Go.RowKit

/-- The library's own number is there. -/
def MxAt (w : World) : Prop := ∃ m : Int, w.cell? ⟨0, 0, none⟩ = some (.int .i64 m)
theorem MxAt.next {w w' : World} (h : MxAt w) (hb : Below w.heap.size w w') : MxAt w' := by
  obtain ⟨m, h⟩ := h
  exact ⟨m, cell_keep hb h⟩
theorem byte_missX (x : UInt8) : ∀ l : List UInt8, Lib.indexByte l x = -1 → ∀ y ∈ l, y ≠ x
  | [], _, y, hy => by simp at hy
  | b :: l, h, y, hy => by
    unfold Lib.indexByte at h
    split at h
    · simp at h
    · rename_i hb
      split at h
      · rename_i h2
        rcases List.mem_cons.1 hy with rfl | hy
        · simpa using hb
        · exact byte_missX x l (by simpa using h2) y hy
      · rename_i h2
        have := Lib.indexByte_ge l x
        simp at h2
        omega
theorem byte_hitX (x : UInt8) : ∀ (l : List UInt8) (i : Nat), Lib.indexByte l x = i → (∀ y ∈ l.take i, y ≠ x) ∧ l = l.take i ++ x :: l.drop (i + 1)
  | [], i, h => by simp [Lib.indexByte] at h
  | b :: l, i, h => by
    unfold Lib.indexByte at h
    split at h
    · rename_i hb
      have hi : i = 0 := by omega
      subst hi
      have hb' : b = x := by simpa using hb
      subst hb'
      simp
    · rename_i hb
      split at h
      · omega
      · rename_i h2
        have := Lib.indexByte_ge l x
        simp at h2
        obtain ⟨j, rfl⟩ : ∃ j, i = j + 1 := ⟨i - 1, by omega⟩
        obtain ⟨h3, h4⟩ := byte_hitX x l j (by omega)
        refine ⟨?_, ?_⟩
        · intro y hy
          rw [List.take_succ_cons] at hy
          rcases List.mem_cons.1 hy with rfl | hy
          · simpa using hb
          · exact h3 y hy
        · rw [List.take_succ_cons, List.drop_succ_cons, List.cons_append, ← h4]
theorem cut_libX (x : UInt8) (s : B) : Lib.cut s [x] = cutF x s := by
  unfold Lib.cut
  rw [Lib.index_one]
  have hge := Lib.indexByte_ge s x
  by_cases h : Lib.indexByte s x = -1
  · rw [h, if_neg (by decide), cutF_no s (byte_missX x s h)]
  · obtain ⟨i, hi⟩ : ∃ i : Nat, Lib.indexByte s x = i := ⟨(Lib.indexByte s x).toNat, by omega⟩
    obtain ⟨h1, h2⟩ := byte_hitX x s i hi
    rw [hi, if_pos (by omega)]
    conv => rhs; rw [h2]
    rw [cutF_at _ _ h1]
    rfl
set_option maxRecDepth 20000 in
set_option maxHeartbeats 4000000 in
theorem pcut_lite (s : B) (hs : s.length ≤ 9223372036854775807) (w : World) : Calls Tryd.prog 48 #[.string (str s), .string ⟨#[58]⟩] w fun e w' => e = .returned (.tuple #[.string (str (cutF 58 s).1), .string (str (cutF 58 s).2.1), .bool (cutF 58 s).2.2]) ∧ ∃ q, w' = w.drewN q := by
  have HI := hid (fun W : World => Tryd.stringslite_Index_one (str s) 58 W)
  rw [show (str s).data.toList = s by simp] at HI
  have hge := Lib.indexByte_ge s 58
  obtain ⟨n, hn⟩ : ∃ n, s.length = n := ⟨_, rfl⟩
  obtain ⟨S, hS⟩ : ∃ S, str s = S := ⟨_, rfl⟩
  have hSn : S.size = n := by rw [← hS, str_size, hn]
  by_cases h : Lib.indexByte s 58 = -1
  · rw [cutF_no s (byte_missX 58 s h)]
    dsimp only
    rw [h] at HI
    rw [hS] at HI
    rw [hS, show str [] = ⟨#[]⟩ from rfl]
    clear hS hn h hge
    go_enter Tryd.func48, Tryd.ntmps48
    go_wp2_with (go_at_call 60; (with_reducible refine (HI.out _).mono ?_); rintro e w1 ⟨rfl, hw1⟩; subst w1)
    go_ret3
    exact ⟨rfl, 0, rfl⟩
  · obtain ⟨i, hi⟩ : ∃ i : Nat, Lib.indexByte s 58 = i := ⟨(Lib.indexByte s 58).toNat, by omega⟩
    obtain ⟨h1, h2⟩ := byte_hitX 58 s i hi
    have hc : cutF 58 s = (s.take i, s.drop (i + 1), true) := by
      conv => lhs; rw [h2]
      exact cutF_at _ _ h1
    have hin : i < n := by
      have h3 := congrArg List.length h2
      rw [List.length_append, List.length_cons, List.length_take, List.length_drop, hn] at h3
      omega
    rw [hc]
    dsimp only
    rw [hi, hS] at HI
    have he1 : S.extract 0 i = str (s.take i) := by rw [← hS]; exact take_ext s i
    have he2 : S.extract (i + 1) n = str (s.drop (i + 1)) := by rw [← hS]; exact ext_drop s (i + 1) n hn
    obtain ⟨S1, hS1⟩ : ∃ S, str (s.take i) = S := ⟨_, rfl⟩
    obtain ⟨S2, hS2⟩ : ∃ S, str (s.drop (i + 1)) = S := ⟨_, rfl⟩
    rw [hS1] at he1
    rw [hS2] at he2
    rw [hS1, hS2, hS]
    have hnb : n ≤ 9223372036854775807 := by omega
    have hzz : (⟨#[58]⟩ : ByteArray).size = 1 := rfl
    clear hS hn h hge hi h1 h2 hc hS1 hS2 hs
    go_enter Tryd.func48, Tryd.ntmps48
    go_wp2_with (go_at_call 60; (with_reducible refine (HI.out _).mono ?_); rintro e w1 ⟨rfl, hw1⟩; subst w1)
    go_quiet (fail)
    go_wp2
    go_ret3
    exact ⟨rfl, _, rfl⟩
set_option maxRecDepth 20000 in
set_option maxHeartbeats 4000000 in
theorem pcutH (s : B) (hs : s.length ≤ 9223372036854775807) (w : World) (_ : MxAt w) : Calls Tryd.prog 33 #[.string (str s), .string ⟨#[58]⟩] w fun e w' => e = .returned (.tuple #[.string (str (cutF 58 s).1), .string (str (cutF 58 s).2.1), .bool (cutF 58 s).2.2]) ∧ ∃ q, w' = w.drewN q := by
  have HL := hid (fun W : World => pcut_lite s hs W)
  obtain ⟨S, hS⟩ : ∃ S, str s = S := ⟨_, rfl⟩
  obtain ⟨A1, hA1⟩ : ∃ A, str (cutF 58 s).1 = A := ⟨_, rfl⟩
  obtain ⟨A2, hA2⟩ : ∃ A, str (cutF 58 s).2.1 = A := ⟨_, rfl⟩
  obtain ⟨b, hb⟩ : ∃ b, (cutF 58 s).2.2 = b := ⟨_, rfl⟩
  rw [hS, hA1, hA2, hb] at HL
  rw [hS, hA1, hA2, hb]
  clear hS hA1 hA2 hb
  go_enter Tryd.func33, Tryd.ntmps33
  go_wp2_with (go_at_call 48; (with_reducible refine (HL.out _).mono ?_); rintro e w1 ⟨rfl, q, rfl⟩)
  go_ret3
  exact ⟨rfl, q, rfl⟩
theorem split_cutH : ∀ (n : Nat) (s : ByteArray), Lib.countB s ⟨#[46]⟩ = n → (Lib.splitB ⟨#[46]⟩ 0 n s).map (fun p => p.data.toList) = cutH s.data.toList
  | n, s, h => by
    have hx : Lib.indexB s ⟨#[46]⟩ = Lib.indexByte s.data.toList 46 := Lib.index_one s.data.toList 46
    by_cases hm : Lib.indexB s ⟨#[46]⟩ = -1
    · rw [Lib.splitB_miss _ _ _ _ hm]
      rw [hx] at hm
      rw [cutH_only _ (fun h1 => byte_missX 46 _ hm 46 h1 rfl)]; rfl
    · have hge := Lib.indexByte_ge s.data.toList 46
      obtain ⟨i, hi⟩ : ∃ i : Nat, Lib.indexB s ⟨#[46]⟩ = i := ⟨(Lib.indexB s ⟨#[46]⟩).toNat, by omega⟩
      have hc := Lib.countB_hit s ⟨#[46]⟩ i (Nat.le_refl 1) hi
      obtain ⟨m, rfl⟩ : ∃ m, n = m + 1 := ⟨n - 1, by omega⟩
      rw [Lib.splitB_hit _ _ _ _ _ hi]
      have hrec := split_cutH m (s.extract (i + (⟨#[46]⟩ : ByteArray).size) s.size) (by omega)
      rw [List.map_cons, hrec]
      rw [hx] at hi
      obtain ⟨h1, h2⟩ := byte_hitX 46 _ _ hi
      have e := cutH_app (s.data.toList.take i) (s.data.toList.drop (i + 1)) (fun h3 => h1 46 h3 rfl)
      rw [← h2] at e
      rw [e]
      have e1 : (s.extract 0 (i + 0)).data.toList = s.data.toList.take i := by simp
      have e2 : (s.extract (i + (⟨#[46]⟩ : ByteArray).size) s.size).data.toList = s.data.toList.drop (i + 1) := by
        rw [show (⟨#[46]⟩ : ByteArray).size = 1 from rfl]
        simp
        rw [List.take_of_length_le (by simp)]
      rw [e1, e2]
theorem psplitH (s : B) (hs : s.length ≤ 4294967280) (w : World) (hmx : MxAt w) : Calls Tryd.prog 44 #[.string (str s), .string ⟨#[46]⟩] w fun e w' => ∃ p c, e = .returned (.slice p (cutH s).length c) ∧ OwnS w' w.heap.size (.slice p (cutH s).length c) (cutH s) ∧ Below w.heap.size w w' := by
  obtain ⟨m, hm⟩ := hmx
  refine (Tryd.strings_Split (str s) ⟨#[46]⟩ m w (by rw [str_size]; omega) hm (Nat.le_refl 1)).mono ?_
  rintro e w' ⟨rfl, rfl⟩
  have hcut := split_cutH _ (str s) rfl
  rw [show (str s).data.toList = s by simp] at hcut
  have hlen : (Lib.splitB ⟨#[46]⟩ 0 (Lib.countB (str s) ⟨#[46]⟩) (str s)).length = Lib.countB (str s) ⟨#[46]⟩ + 1 := Lib.splitB_all ⟨#[46]⟩ (Nat.le_refl 1) 0 _ (str s) rfl
  have hl2 : (cutH s).length = Lib.countB (str s) ⟨#[46]⟩ + 1 := by rw [← hlen, ← hcut, List.length_map]
  have hle := Lib.countB_le ⟨#[46]⟩ (Nat.le_refl 1) _ (str s) (Nat.le_refl _)
  rw [str_size] at hle
  have hcells : (Lib.splitB ⟨#[46]⟩ 0 (Lib.countB (str s) ⟨#[46]⟩) (str s)).map Value.string = strC (cutH s) := by
    rw [← hcut]
    unfold strC
    rw [List.map_map]
    rfl
  refine ⟨some ⟨w.heap.size, 0, none⟩, Lib.countB (str s) ⟨#[46]⟩ + 1, by rw [hl2], ?_, below_new _ _⟩
  refine ⟨by simp [strC], .inr ⟨w.heap.size, Lib.countB (str s) ⟨#[46]⟩ + 1, _, rfl, Nat.le_refl _, heap_alloc_new w _, by omega, by unfold maxLen; omega, by simp [hlen], ?_⟩⟩
  rw [hcells]
  exact List.take_of_length_le (by simp [strC])
set_option maxHeartbeats 400000 in
theorem cloneH (s : B) (w : World) (hs : s.length ≤ 281474976710656) :
    Calls Tryd.prog 42 #[.string (str s)] w fun e w' => e = .returned (.string (str s)) ∧ Below w.heap.size w w' := by
  have HC := hid (fun W : World => Tryd.stringslite_Clone (str s) W (by rw [str_size]; exact hs))
  obtain ⟨S, hS⟩ : ∃ S, str s = S := ⟨_, rfl⟩
  rw [hS] at HC ⊢
  clear hS
  go_enter Tryd.func42, Tryd.ntmps42
  go_wp2_with (go_at_call 56; (with_reducible refine (HC.out _).mono ?_); rintro e w' ⟨rfl, hb⟩)
  go_ret
  exact ⟨rfl, by assumption⟩
end Go.Proofs.YtkjgdfihhhdjaaaDoor
