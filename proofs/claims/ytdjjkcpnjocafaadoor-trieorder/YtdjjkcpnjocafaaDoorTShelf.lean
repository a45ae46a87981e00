/- The library's functions that the program calls: Cut, Split, Clone. -/
import Derived.Test.YtdjjkcpnjocafaaDoorTSeg
import Derived.Test.YtdjjkcpnjocafaaDoorShelf
import Derived.Lib.SplitLaws
import Derived.Lib.Strings
namespace Go.Proofs.YtdjjkcpnjocafaaDoor
open Go.RowKit

/-- The library's own number is there. -/
def MxAt (w : World) : Prop := ∃ m : Int, w.cell? ⟨1, 0, none⟩ = some (.int .i64 m)
theorem MxAt.next {w w' : World} (h : MxAt w) (hb : Below w.heap.size w w') : MxAt w' := by
  obtain ⟨m, h⟩ := h
  exact ⟨m, cell_keep hb h⟩
theorem byte_missX (x : UInt8) : ∀ l : List UInt8, Lib.indexByte l x = -1 → ∀ y ∈ l, y ≠ x
  | [], _, y, hy => by simp at hy
  | b :: l, h, y, hy => by
    unfold Lib.indexByte at h
    split at h
    · simp at h
    · rename_i hb
      split at h
      · rename_i h2
        rcases List.mem_cons.1 hy with rfl | hy
        · simpa using hb
        · exact byte_missX x l (by simpa using h2) y hy
      · rename_i h2
        have := Lib.indexByte_ge l x
        simp at h2
        omega
theorem byte_hitX (x : UInt8) : ∀ (l : List UInt8) (i : Nat), Lib.indexByte l x = i → (∀ y ∈ l.take i, y ≠ x) ∧ l = l.take i ++ x :: l.drop (i + 1)
  | [], i, h => by simp [Lib.indexByte] at h
  | b :: l, i, h => by
    unfold Lib.indexByte at h
    split at h
    · rename_i hb
      have hi : i = 0 := by omega
      subst hi
      have hb' : b = x := by simpa using hb
      subst hb'
      simp
    · rename_i hb
      split at h
      · omega
      · rename_i h2
        have := Lib.indexByte_ge l x
        simp at h2
        obtain ⟨j, rfl⟩ : ∃ j, i = j + 1 := ⟨i - 1, by omega⟩
        obtain ⟨h3, h4⟩ := byte_hitX x l j (by omega)
        refine ⟨?_, ?_⟩
        · intro y hy
          rw [List.take_succ_cons] at hy
          rcases List.mem_cons.1 hy with rfl | hy
          · simpa using hb
          · exact h3 y hy
        · rw [List.take_succ_cons, List.drop_succ_cons, List.cons_append, ← h4]
theorem cut_libX (x : UInt8) (s : B) : Lib.cut s [x] = cutF x s := by
  unfold Lib.cut
  rw [Lib.index_one]
  have hge := Lib.indexByte_ge s x
  by_cases h : Lib.indexByte s x = -1
  · rw [h, if_neg (by decide), cutF_no s (byte_missX x s h)]
  · obtain ⟨i, hi⟩ : ∃ i : Nat, Lib.indexByte s x = i := ⟨(Lib.indexByte s x).toNat, by omega⟩
    obtain ⟨h1, h2⟩ := byte_hitX x s i hi
    rw [hi, if_pos (by omega)]
    conv => rhs; rw [h2]
    rw [cutF_at _ _ h1]
    rfl
set_option maxRecDepth 20000 in
set_option maxHeartbeats 4000000 in
theorem pcut_lite (s : B) (hs : s.length ≤ 140737488355328) (w : World) : Calls Tryd.prog 66 #[.string (str s), .string ⟨#[47]⟩] w fun e w' => e = .returned (.tuple #[.string (str (cutF 47 s).1), .string (str (cutF 47 s).2.1), .bool (cutF 47 s).2.2]) ∧ ∃ q, w' = w.drewN q := by
  have HI := hid (fun W : World => Tryd.stringslite_Index_one (str s) 47 W)
  rw [show (str s).data.toList = s by simp] at HI
  have hge := Lib.indexByte_ge s 47
  obtain ⟨n, hn⟩ : ∃ n, s.length = n := ⟨_, rfl⟩
  obtain ⟨S, hS⟩ : ∃ S, str s = S := ⟨_, rfl⟩
  have hSn : S.size = n := by rw [← hS, str_size, hn]
  by_cases h : Lib.indexByte s 47 = -1
  · rw [cutF_no s (byte_missX 47 s h)]
    dsimp only
    rw [h] at HI
    rw [hS] at HI
    rw [hS, show str [] = ⟨#[]⟩ from rfl]
    clear hS hn h hge
    go_enter Tryd.func66, Tryd.ntmps66
    go_wp2_with (go_at_call 73; (with_reducible refine (HI.out _).mono ?_); rintro e w1 ⟨rfl, hw1⟩; subst w1)
    go_ret3
    exact ⟨rfl, 0, rfl⟩
  · obtain ⟨i, hi⟩ : ∃ i : Nat, Lib.indexByte s 47 = i := ⟨(Lib.indexByte s 47).toNat, by omega⟩
    obtain ⟨h1, h2⟩ := byte_hitX 47 s i hi
    have hc : cutF 47 s = (s.take i, s.drop (i + 1), true) := by
      conv => lhs; rw [h2]
      exact cutF_at _ _ h1
    have hin : i < n := by
      have h3 := congrArg List.length h2
      rw [List.length_append, List.length_cons, List.length_take, List.length_drop, hn] at h3
      omega
    rw [hc]
    dsimp only
    rw [hi, hS] at HI
    have he1 : S.extract 0 i = str (s.take i) := by rw [← hS]; exact take_ext s i
    have he2 : S.extract (i + 1) n = str (s.drop (i + 1)) := by rw [← hS]; exact ext_drop s (i + 1) n hn
    obtain ⟨S1, hS1⟩ : ∃ S, str (s.take i) = S := ⟨_, rfl⟩
    obtain ⟨S2, hS2⟩ : ∃ S, str (s.drop (i + 1)) = S := ⟨_, rfl⟩
    rw [hS1] at he1
    rw [hS2] at he2
    rw [hS1, hS2, hS]
    have hnb : n ≤ 140737488355328 := by omega
    have hzz : (⟨#[47]⟩ : ByteArray).size = 1 := rfl
    clear hS hn h hge hi h1 h2 hc hS1 hS2 hs
    go_enter Tryd.func66, Tryd.ntmps66
    go_wp2_with (go_at_call 73; (with_reducible refine (HI.out _).mono ?_); rintro e w1 ⟨rfl, hw1⟩; subst w1)
    go_quiet (fail)
    go_wp2
    go_ret3
    exact ⟨rfl, _, rfl⟩
set_option maxRecDepth 20000 in
set_option maxHeartbeats 4000000 in
theorem pcutT (s : B) (hs : s.length ≤ 140737488355328) (w : World) (_ : MxAt w) : Calls Tryd.prog 50 #[.string (str s), .string ⟨#[47]⟩] w fun e w' => e = .returned (.tuple #[.string (str (cutF 47 s).1), .string (str (cutF 47 s).2.1), .bool (cutF 47 s).2.2]) ∧ ∃ q, w' = w.drewN q := by
  have HL := hid (fun W : World => pcut_lite s hs W)
  obtain ⟨S, hS⟩ : ∃ S, str s = S := ⟨_, rfl⟩
  obtain ⟨A1, hA1⟩ : ∃ A, str (cutF 47 s).1 = A := ⟨_, rfl⟩
  obtain ⟨A2, hA2⟩ : ∃ A, str (cutF 47 s).2.1 = A := ⟨_, rfl⟩
  obtain ⟨b, hb⟩ : ∃ b, (cutF 47 s).2.2 = b := ⟨_, rfl⟩
  rw [hS, hA1, hA2, hb] at HL
  rw [hS, hA1, hA2, hb]
  clear hS hA1 hA2 hb
  go_enter Tryd.func50, Tryd.ntmps50
  go_wp2_with (go_at_call 66; (with_reducible refine (HL.out _).mono ?_); rintro e w1 ⟨rfl, q, rfl⟩)
  go_ret3
  exact ⟨rfl, q, rfl⟩
/-- The first segment and what stands behind it. -/
theorem cutT_cut (s : B) : cutT s = (cutF 47 s).1 :: (if (cutF 47 s).2.2 then cutT (cutF 47 s).2.1 else []) := by
  obtain ⟨h1, h2, _⟩ := cutF_spec 47 s
  have h3 : (47 : UInt8) ∉ (cutF 47 s).1 := fun h => h1 47 h rfl
  by_cases h : (cutF 47 s).2.2 = true
  · rw [if_pos h] at h2 ⊢
    conv => lhs; rw [h2]
    exact cutT_app _ _ h3
  · rw [if_neg h] at h2 ⊢
    rw [List.append_nil] at h2
    conv => lhs; rw [h2]
    exact cutT_only _ h3
theorem split_cutT : ∀ (n : Nat) (s : ByteArray), Lib.countB s ⟨#[47]⟩ = n → (Lib.splitB ⟨#[47]⟩ 0 n s).map (fun p => p.data.toList) = cutT s.data.toList
  | n, s, h => by
    have hx : Lib.indexB s ⟨#[47]⟩ = Lib.indexByte s.data.toList 47 := Lib.index_one s.data.toList 47
    by_cases hm : Lib.indexB s ⟨#[47]⟩ = -1
    · rw [Lib.splitB_miss _ _ _ _ hm]
      rw [hx] at hm
      rw [cutT_only _ (fun h1 => byte_missX 47 _ hm 47 h1 rfl)]; rfl
    · have hge := Lib.indexByte_ge s.data.toList 47
      obtain ⟨i, hi⟩ : ∃ i : Nat, Lib.indexB s ⟨#[47]⟩ = i := ⟨(Lib.indexB s ⟨#[47]⟩).toNat, by omega⟩
      have hc := Lib.countB_hit s ⟨#[47]⟩ i (Nat.le_refl 1) hi
      obtain ⟨m, rfl⟩ : ∃ m, n = m + 1 := ⟨n - 1, by omega⟩
      rw [Lib.splitB_hit _ _ _ _ _ hi]
      have hrec := split_cutT m (s.extract (i + (⟨#[47]⟩ : ByteArray).size) s.size) (by omega)
      rw [List.map_cons, hrec]
      rw [hx] at hi
      obtain ⟨h1, h2⟩ := byte_hitX 47 _ _ hi
      have e := cutT_app (s.data.toList.take i) (s.data.toList.drop (i + 1)) (fun h3 => h1 47 h3 rfl)
      rw [← h2] at e
      rw [e]
      have e1 : (s.extract 0 (i + 0)).data.toList = s.data.toList.take i := by simp
      have e2 : (s.extract (i + (⟨#[47]⟩ : ByteArray).size) s.size).data.toList = s.data.toList.drop (i + 1) := by
        rw [show (⟨#[47]⟩ : ByteArray).size = 1 from rfl]
        simp
        rw [List.take_of_length_le (by simp)]
      rw [e1, e2]
theorem psplitT (s : B) (hs : s.length ≤ 4294967280) (w : World) (hmx : MxAt w) : Calls Tryd.prog 41 #[.string (str s), .string ⟨#[47]⟩] w fun e w' => ∃ p c, e = .returned (.slice p (cutT s).length c) ∧ OwnS w' w.heap.size (.slice p (cutT s).length c) (cutT s) ∧ Below w.heap.size w w' := by
  obtain ⟨m, hm⟩ := hmx
  refine (Tryd.strings_Split (str s) ⟨#[47]⟩ m w (by rw [str_size]; omega) hm (Nat.le_refl 1)).mono ?_
  rintro e w' ⟨rfl, rfl⟩
  have hcut := split_cutT _ (str s) rfl
  rw [show (str s).data.toList = s by simp] at hcut
  have hlen : (Lib.splitB ⟨#[47]⟩ 0 (Lib.countB (str s) ⟨#[47]⟩) (str s)).length = Lib.countB (str s) ⟨#[47]⟩ + 1 := Lib.splitB_all ⟨#[47]⟩ (Nat.le_refl 1) 0 _ (str s) rfl
  have hl2 : (cutT s).length = Lib.countB (str s) ⟨#[47]⟩ + 1 := by rw [← hlen, ← hcut, List.length_map]
  have hle := Lib.countB_le ⟨#[47]⟩ (Nat.le_refl 1) _ (str s) (Nat.le_refl _)
  rw [str_size] at hle
  have hcells : (Lib.splitB ⟨#[47]⟩ 0 (Lib.countB (str s) ⟨#[47]⟩) (str s)).map Value.string = strC (cutT s) := by
    rw [← hcut]
    unfold strC
    rw [List.map_map]
    rfl
  refine ⟨some ⟨w.heap.size, 0, none⟩, Lib.countB (str s) ⟨#[47]⟩ + 1, by rw [hl2], ?_, below_new _ _⟩
  refine ⟨by simp [strC], .inr ⟨w.heap.size, Lib.countB (str s) ⟨#[47]⟩ + 1, _, rfl, Nat.le_refl _, heap_alloc_new w _, by omega, by unfold maxLen; omega, by simp [hlen], ?_⟩⟩
  rw [hcells]
  exact List.take_of_length_le (by simp [strC])
set_option maxHeartbeats 400000 in
theorem cloneT (s : B) (w : World) (hs : s.length ≤ 281474976710656) :
    Calls Tryd.prog 25 #[.string (str s)] w fun e w' => e = .returned (.string (str s)) ∧ Below w.heap.size w w' := by
  have HC := hid (fun W : World => Tryd.stringslite_Clone (str s) W (by rw [str_size]; exact hs))
  obtain ⟨S, hS⟩ : ∃ S, str s = S := ⟨_, rfl⟩
  rw [hS] at HC ⊢
  clear hS
  go_enter Tryd.func25, Tryd.ntmps25
  go_wp2_with (go_at_call 40; (with_reducible refine (HC.out _).mono ?_); rintro e w' ⟨rfl, hb⟩)
  go_ret
  exact ⟨rfl, by assumption⟩
end Go.Proofs.YtdjjkcpnjocafaaDoor
