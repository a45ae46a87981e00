/- The pieces of a text between its commas, trimmed, empty ones left out: plain lists. -/
import Derived.Test.YtnlmjlfoeodleaaGreatDoorCTrim
import Derived.Lib.SplitLaws
import Derived.Test.YtnlmjlfoeodleaaGreatDoorCLow
namespace Go.Proofs.YtnlmjlfoeodleaaGreatDoor

def cutL : List UInt8 → List (List UInt8)
  | [] => [[]]
  | b :: l => if b = 44 then [] :: cutL l else match cutL l with
    | [] => [[b]]
    | p :: r => (b :: p) :: r
theorem cutL_ne (l : List UInt8) : cutL l ≠ [] := by
  cases l with
  | nil => simp [cutL]
  | cons b l => unfold cutL; split <;> (try split) <;> simp
theorem cutL_none : ∀ l : List UInt8, (∀ x ∈ l, x ≠ 44) → cutL l = [l]
  | [], _ => rfl
  | b :: l, h => by
    rw [cutL, if_neg (h b (by simp)), cutL_none l (fun x hx => h x (by simp [hx]))]
theorem cutL_at : ∀ (p l : List UInt8), (∀ x ∈ p, x ≠ 44) → cutL (p ++ 44 :: l) = p :: cutL l
  | [], l, _ => by rw [List.nil_append, cutL, if_pos rfl]
  | b :: p, l, h => by
    rw [List.cons_append, cutL, if_neg (h b (by simp)), cutL_at p l (fun x hx => h x (by simp [hx]))]

def listL (l : List UInt8) : List (List UInt8) := ((cutL l).map trimL).filter (fun p => !p.isEmpty)
def asB (l : List UInt8) : ByteArray := ⟨l.toArray⟩
def listS (s : ByteArray) : List ByteArray := (listL s.data.toList).map asB

theorem byte_miss : ∀ l : List UInt8, Lib.indexByte l 44 = -1 → ∀ x ∈ l, x ≠ 44
  | [], _, x, hx => by simp at hx
  | b :: l, h, x, hx => by
    unfold Lib.indexByte at h
    split at h
    · simp at h
    · rename_i hb
      split at h
      · rename_i h2
        rcases List.mem_cons.1 hx with rfl | hx
        · simpa using hb
        · exact byte_miss l (by simpa using h2) x hx
      · rename_i h2
        have := Lib.indexByte_ge l 44
        simp at h2
        omega
theorem byte_hit : ∀ (l : List UInt8) (i : Nat), Lib.indexByte l 44 = i → (∀ x ∈ l.take i, x ≠ 44) ∧ l = l.take i ++ 44 :: l.drop (i + 1)
  | [], i, h => by simp [Lib.indexByte] at h
  | b :: l, i, h => by
    unfold Lib.indexByte at h
    split at h
    · rename_i hb
      have hi : i = 0 := by omega
      subst hi
      have hb' : b = 44 := by simpa using hb
      subst hb'
      simp
    · rename_i hb
      split at h
      · omega
      · rename_i h2
        have := Lib.indexByte_ge l 44
        simp at h2
        obtain ⟨j, rfl⟩ : ∃ j, i = j + 1 := ⟨i - 1, by omega⟩
        obtain ⟨h3, h4⟩ := byte_hit l j (by omega)
        refine ⟨?_, ?_⟩
        · intro x hx
          rw [List.take_succ_cons] at hx
          rcases List.mem_cons.1 hx with rfl | hx
          · simpa using hb
          · exact h3 x hx
        · rw [List.take_succ_cons, List.drop_succ_cons, List.cons_append, ← h4]

def comma : ByteArray := { data := #[44] }
theorem split_cut : ∀ (n : Nat) (s : ByteArray), Lib.countB s comma = n → (Lib.splitB comma 0 n s).map (fun p => p.data.toList) = cutL s.data.toList
  | n, s, h => by
    have hx : Lib.indexB s comma = Lib.indexByte s.data.toList 44 := Lib.index_one s.data.toList 44
    by_cases hm : Lib.indexB s comma = -1
    · rw [Lib.splitB_miss _ _ _ _ hm]
      rw [hx] at hm
      rw [cutL_none _ (byte_miss _ hm)]; rfl
    · have hge := Lib.indexByte_ge s.data.toList 44
      obtain ⟨i, hi⟩ : ∃ i : Nat, Lib.indexB s comma = i := ⟨(Lib.indexB s comma).toNat, by omega⟩
      have hc := Lib.countB_hit s comma i (by decide) hi
      obtain ⟨m, rfl⟩ : ∃ m, n = m + 1 := ⟨n - 1, by omega⟩
      rw [Lib.splitB_hit _ _ _ _ _ hi]
      have hrec := split_cut m (s.extract (i + comma.size) s.size) (by omega)
      rw [List.map_cons, hrec]
      rw [hx] at hi
      obtain ⟨h1, h2⟩ := byte_hit _ _ hi
      have e := cutL_at (s.data.toList.take i) (s.data.toList.drop (i + 1)) h1
      rw [← h2] at e
      rw [e]
      have e1 : (s.extract 0 (i + 0)).data.toList = s.data.toList.take i := by simp
      have e2 : (s.extract (i + comma.size) s.size).data.toList = s.data.toList.drop (i + 1) := by
        rw [show comma.size = 1 from rfl]
        simp
        rw [List.take_of_length_le (by simp)]
      rw [e1, e2]
end Go.Proofs.YtnlmjlfoeodleaaGreatDoor
/- Lists with commas, of package chars: the pieces, trimmed, empty ones left out, in new memory. -/
namespace Go.Proofs.YtnlmjlfoeodleaaGreatDoor
open Go.RowKit

theorem info9 : (Tryz.prog.info? 9).map (fun i => (i.zero, i.size, i.bytes)) = some (some (.string ByteArray.empty), 1, 16) := by kernel_rfl
def keepL (t : ByteArray) : Bool := decide (t.size ≠ 0)
def listTo (P : List ByteArray) (k : Nat) : List ByteArray := ((P.take k).map trimS).filter keepL
theorem listTo_le (P : List ByteArray) (k : Nat) : (listTo P k).length ≤ k := by
  unfold listTo
  refine Nat.le_trans (List.length_filter_le _ _) ?_
  simp; omega
theorem listTo_keep {P : List ByteArray} {k : Nat} {p : ByteArray} (hp : P[k]? = some p) (h : ¬ (trimS p).size = 0) : listTo P (k + 1) = listTo P k ++ [trimS p] := by
  unfold listTo
  rw [List.take_add_one, hp]
  simp [keepL, h]
theorem listTo_drop {P : List ByteArray} {k : Nat} {p : ByteArray} (hp : P[k]? = some p) (h : (trimS p).size = 0) : listTo P (k + 1) = listTo P k := by
  unfold listTo
  rw [List.take_add_one, hp]
  simp [keepL, h]
theorem asB_list (s : ByteArray) : asB s.data.toList = s := rfl
theorem keep_as (l : List UInt8) : keepL (asB l) = !l.isEmpty := by
  rw [Bool.eq_iff_iff]
  simp [keepL, asB, ByteArray.size]
theorem listTo_all {P : List ByteArray} {s : ByteArray} (h : P.map (fun p => p.data.toList) = cutL s.data.toList) : listTo P P.length = listS s := by
  unfold listTo listS listL
  rw [List.take_of_length_le (Nat.le_refl _), ← h, List.map_map, List.filter_map, List.filter_map, List.map_map]
  have e1 : (asB ∘ (trimL ∘ fun p : ByteArray => p.data.toList)) = trimS := by funext p; rfl
  have e2 : (keepL ∘ trimS) = ((fun p : List UInt8 => !p.isEmpty) ∘ (trimL ∘ fun p : ByteArray => p.data.toList)) := by
    funext p; exact keep_as (trimL p.data.toList)
  rw [e1, e2]
theorem cutL_len : ∀ (l p : List UInt8), p ∈ cutL l → p.length ≤ l.length
  | [], p, h => by simp [cutL] at h; simp [h]
  | b :: l, p, h => by
    unfold cutL at h
    split at h
    · rcases List.mem_cons.1 h with rfl | h
      · simp
      · have := cutL_len l p h; simp; omega
    · split at h
      · rename_i e; exact absurd e (cutL_ne l)
      · rename_i q r e
        rcases List.mem_cons.1 h with rfl | h
        · have := cutL_len l q (by rw [e]; simp); simp; omega
        · have := cutL_len l p (by rw [e]; simp [h]); simp; omega
theorem piece_len {P : List ByteArray} {s p : ByteArray} {k : Nat} (h : P.map (fun p => p.data.toList) = cutL s.data.toList) (hp : P[k]? = some p) : p.size ≤ s.size := by
  have hm : p.data.toList ∈ cutL s.data.toList := by
    rw [← h]; exact List.mem_map_of_mem (List.mem_of_getElem? hp)
  have := cutL_len _ _ hm
  simpa using this
def strVL (s : ByteArray) : Value := .string s
theorem strs_plain (x : ByteArray) : ∀ u, u ∈ [Value.string x] → u.oneCell' = true := by
  intro u hu; simp at hu; subst hu; rfl
theorem app_below' {w0 wr w1 : World} {B : Nat} {o : Obj} {v : Value} {e : TypeId} {size k : Nat} {xs : List Value} (hbel : Below B w0 wr) (hB : B ≤ wr.heap.size) (hown : wr.ownsRow B e size v k xs) (hg : (wr.alloc o).grownBy w1 v.ownBlock) : Below B w0 w1 :=
  (hbel.alloc hB o).grown hg (by have h2 : wr.heap.size ≤ (wr.alloc o).heap.size := by simp
                                 omega) (fun k hk => (hown.lt k hk).1)
theorem own_mono {w : World} {B B' n : Nat} {e : TypeId} {size : Nat} {v : Value} {xs : List Value} (h : w.ownsRow B e size v n xs) (hb : B' ≤ B) : w.ownsRow B' e size v n xs :=
  ⟨h.1, h.2.imp id (fun ⟨g, cap, cur, a, b, r⟩ => ⟨g, cap, cur, a, Nat.le_trans hb b, r⟩)⟩
theorem own_over {w w' : World} {B n : Nat} {e : TypeId} {size : Nat} {v : Value} {xs : List Value} (h : w.ownsRow B e size v n xs) (hb : Below w.heap.size w w') : w'.ownsRow B e size v n xs := by
  refine ⟨h.1, ?_⟩
  rcases h.2 with h' | ⟨g, cap, cur, e1, e2, e3, e4⟩
  · exact .inl h'
  · exact .inr ⟨g, cap, cur, e1, e2, (hb.block g (by
      rcases Nat.lt_or_ge g w.heap.size with h | h
      · exact h
      · rw [Array.getElem?_eq_none h] at e3; cases e3)).trans e3, e4⟩

set_option maxRecDepth 20000 in
set_option maxHeartbeats 2000000 in
theorem list_any (s : ByteArray) (m : Int) (w : World) (hs : s.size ≤ 1048576) (hm : w.cell? ⟨2, 0, none⟩ = some (.int .i64 m)) :
    Calls Tryz.prog 115 #[.string s] w fun e w' => ∃ v, e = .returned v ∧ w'.ownsRow w.heap.size 9 1 v (listS s).length ((listS s).map strVL) ∧ Below w.heap.size w w' := by
  obtain ⟨i0, hi, hz0, hz1, hz2⟩ := info_parts info9
  obtain ⟨n, hn⟩ : ∃ n, Lib.countB s comma + 1 = n := ⟨_, rfl⟩
  obtain ⟨P, hP⟩ : ∃ P, Lib.splitB comma 0 (Lib.countB s comma) s = P := ⟨_, rfl⟩
  have hPc := split_cut _ s rfl
  rw [hP] at hPc
  have hPl : P.length = n := by rw [← hP, ← hn]; exact Lib.splitB_all comma (by decide) 0 _ s rfl
  have hcle := Lib.countB_le comma (by decide) s.size s (Nat.le_refl _)
  have hn2 : n ≤ 1048577 := by omega
  have hAll := Lib.hid (listTo_all hPc)
  have hsp := Tryz.strings_Split s comma m w (by omega) hm (by decide)
  rw [hn, hP] at hsp
  have hcells : ∀ k p, P[k]? = some p → (w.alloc (.cells (P.map Value.string).toArray 9)).cell? ⟨w.heap.size, k, none⟩ = some (.string p) := fun k p hp => by
    rw [World.cell?_alloc_new]; simp [hp]
  have HC := Lib.hid hcells
  have HP := Lib.hid hPc
  clear hcells hPc hcle hn hP hm
  go_enter Tryz.func115, Tryz.ntmps115
  go_wp2_with (go_at_call 136; refine hsp.mono ?_; rintro e w' ⟨rfl, rfl⟩)
  clear hsp
  have hw1 : (w.alloc (.cells (P.map Value.string).toArray 9)).heap.size = w.heap.size + 1 := by simp
  have hb1 : Below w.heap.size w (w.alloc (.cells (P.map Value.string).toArray 9)) := (Below.refl _ _).alloc (Nat.le_refl _) _
  generalize (w.alloc (.cells (P.map Value.string).toArray 9)) = w1 at *
  go_loopw [3, 10] (fun v i W => ∃ k : Nat, k ≤ n ∧ i = .int .i64 k ∧ W.ownsRow (w.heap.size + 1) 9 1 v (listTo P k).length ((listTo P k).map strVL) ∧ Below w1.heap.size w1 W) (fun _ i _ => n - (intOf i).toNat)
  case atStart => exact ⟨0, Nat.zero_le _, rfl, World.ownsRow_nil _ _ _ _, Below.refl _ _⟩
  case round =>
    obtain ⟨k, hk, rfl, hown, hbel⟩ := hrel
    rename_i u0 v
    rename World => wr
    by_cases hlt : k < n
    · obtain ⟨p, hp⟩ : ∃ p, P[k]? = some p := ⟨P[k]'(by omega), List.getElem?_eq_getElem (by omega)⟩
      have hcell : wr.cell? ⟨w.heap.size, k, none⟩ = some (.string p) := (hbel.cell (p := ⟨w.heap.size, k, none⟩) (by rw [hw1]; exact Nat.lt_succ_self _)).trans (HC.out k p hp)
      have hpl := piece_len HP.out hp
      have hle := listTo_le P k
      have hsz := hbel.size
      by_cases ht : (trimS p).size = 0
      · have hE : (trimS p).toList.isEmpty = true := by rw [empty_size]; simpa using ht
        have hN := Lib.hid (listTo_drop hp ht)
        go_wp2_with (go_at_call 137; refine (trim_any _ _ (by omega)).mono ?_; rintro e w2 ⟨rfl, hb2⟩; replace hown := own_over hown hb2; replace hbel := hbel.trans (hb2.mono hsz); clear hb2)
        go_roundw
        case rel => exact ⟨k + 1, by omega, by go_num, by rw [hN.out]; exact hown, hbel⟩
        case measure => simp [intOf]; omega
      · have hE : (trimS p).toList.isEmpty = false := by rw [empty_size]; simpa using ht
        have hN := Lib.hid (listTo_keep hp ht)
        go_wp2_with (first
          | (go_at_call 137; refine (trim_any _ _ (by omega)).mono ?_; rintro e w2 ⟨rfl, hb2⟩; replace hown := own_over hown hb2; replace hbel := hbel.trans (hb2.mono hsz); replace hsz := hbel.size; clear hb2 hcell)
          | (at_builtin; refine wpList_append_own _ rfl _ _ 129 rfl (w.heap.size + 1) 9 i0 (.string ByteArray.empty) 1 16 Tryz.underlying129 hi hz0 hz1 hz2 rfl (by decide) _ _ _ rfl (hown.alloc _) ⟨_, 0, none⟩ 1 1 [.string (trimS p)] rfl rfl (one_cellL _ _ _) (strs_plain _) (by unfold maxLen; omega) (by omega) (by simp; omega) ?_; intro v' w3 hown' hgrow _))
        have hb3 := app_below' (B := w.heap.size + 1) (by rw [← hw1]; exact hbel) (by omega) hown hgrow
        rw [hw1.symm] at hb3
        go_wp2
        go_roundw
        case rel => exact ⟨k + 1, by omega, by go_num, by rw [hN.out]; simpa [strVL] using hown', hb3⟩
        case measure => simp [intOf]; omega
    · have hk' : k = n := by omega
      subst hk'
      go_wp2
      go_ret
      refine ⟨_, rfl, ?_, ?_⟩
      · rw [← hAll.out, hPl]
        exact own_mono hown (Nat.le_succ _)
      · exact hb1.trans (hbel.mono (by omega))
end Go.Proofs.YtnlmjlfoeodleaaGreatDoor
