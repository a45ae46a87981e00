/- The library's Cut, Split, Count, HasPrefix, Clone and LastIndexByte in the words of these texts; the project's errors. -/
import Derived.Test.YtbdbmlklijmefaaDoorShelf
import Derived.Test.YtbdbmlklijmefaaDoorPEnc
import Derived.Test.YtbdbmlklijmefaaDoorRNorm
import Derived.Lib.SplitLaws
namespace Go.Proofs.YtbdbmlklijmefaaDoor
open Go.RowKit

theorem lt_of_cell {w : World} {k o : Nat} {v : Value} (h : w.cell? ⟨k, o, none⟩ = some v) : k < w.heap.size := by
  unfold World.cell? at h
  cases e : w.heap[k]? with
  | none => simp [e] at h
  | some o => exact lt_of_heap e
theorem cell_keep {w w' : World} (hb : Below w.heap.size w w') {k o : Nat} {v : Value} (h : w.cell? ⟨k, o, none⟩ = some v) : w'.cell? ⟨k, o, none⟩ = some v := (hb.cell (p := ⟨k, o, none⟩) (lt_of_cell h)).trans h
/-- The library's own bound lies where it was laid. -/
structure Env (w : World) : Prop where
  most : ∃ m : Int, w.cell? ⟨0, 0, none⟩ = some (.int .i64 m)
theorem Env.below {w w' : World} (h : Env w) (hb : Below w.heap.size w w') : Env w' := by
  obtain ⟨m, h1⟩ := h.most
  exact ⟨m, cell_keep hb h1⟩
/-- An error of the project's own, by its number. -/
def errOf (k : Nat) : Value := if k = 0 then .nilIface else .iface 55 (.int .i64 (k : Int))
theorem errOf_zero : errOf 0 = .nilIface := rfl
theorem errOf_pos {k : Nat} (h : k ≠ 0) : errOf k = .iface 55 (.int .i64 (k : Int)) := by unfold errOf; rw [if_neg h]
theorem byte_miss (x : UInt8) : ∀ l : List UInt8, Lib.indexByte l x = -1 → ∀ y ∈ l, y ≠ x
  | [], _, y, hy => by simp at hy
  | b :: l, h, y, hy => by
    unfold Lib.indexByte at h
    split at h
    · simp at h
    · rename_i hb
      split at h
      · rename_i h2
        rcases List.mem_cons.1 hy with rfl | hy
        · simpa using hb
        · exact byte_miss x l (by simpa using h2) y hy
      · rename_i h2
        have := Lib.indexByte_ge l x
        simp at h2
        omega
theorem byte_hit (x : UInt8) : ∀ (l : List UInt8) (i : Nat), Lib.indexByte l x = i → (∀ y ∈ l.take i, y ≠ x) ∧ l = l.take i ++ x :: l.drop (i + 1)
  | [], i, h => by simp [Lib.indexByte] at h
  | b :: l, i, h => by
    unfold Lib.indexByte at h
    split at h
    · rename_i hb
      have hi : i = 0 := by omega
      subst hi
      have hb' : b = x := by simpa using hb
      subst hb'
      simp
    · rename_i hb
      split at h
      · omega
      · rename_i h2
        have := Lib.indexByte_ge l x
        simp at h2
        obtain ⟨j, rfl⟩ : ∃ j, i = j + 1 := ⟨i - 1, by omega⟩
        obtain ⟨h3, h4⟩ := byte_hit x l j (by omega)
        refine ⟨?_, ?_⟩
        · intro y hy
          rw [List.take_succ_cons] at hy
          rcases List.mem_cons.1 hy with rfl | hy
          · simpa using hb
          · exact h3 y hy
        · rw [List.take_succ_cons, List.drop_succ_cons, List.cons_append, ← h4]
theorem cut_lib (x : UInt8) (s : B) : Lib.cut s [x] = cutF x s := by
  unfold Lib.cut
  rw [Lib.index_one]
  have hge := Lib.indexByte_ge s x
  by_cases h : Lib.indexByte s x = -1
  · rw [h, if_neg (by decide), cutF_no s (byte_miss x s h)]
  · obtain ⟨i, hi⟩ : ∃ i : Nat, Lib.indexByte s x = i := ⟨(Lib.indexByte s x).toNat, by omega⟩
    obtain ⟨h1, h2⟩ := byte_hit x s i hi
    rw [hi, if_pos (by omega)]
    conv => rhs; rw [h2]
    rw [cutF_at _ _ h1]
    rfl
theorem pcut_any (x : UInt8) (s : B) (hs : s.length ≤ 4294967280) (w : World) (hE : Env w) : Calls Tryd.prog 48 #[.string (str s), .string ⟨#[x]⟩] w fun e w' => e = .returned (.tuple #[.string (str (cutF x s).1), .string (str (cutF x s).2.1), .bool (cutF x s).2.2]) ∧ Below w.heap.size w w' := by
  obtain ⟨m, hm⟩ := hE.most
  refine (Tryd.strings_Cut (str s) ⟨#[x]⟩ m w (by rw [str_size]; omega) hm).mono ?_
  rintro e w' ⟨rfl, q, rfl⟩
  have e1 : Lib.cut (str s).data.toList (⟨#[x]⟩ : ByteArray).data.toList = cutF x s := cut_lib x s
  rw [e1]
  exact ⟨rfl, below_drew (Below.refl _ _) q⟩
theorem split_cut (x : UInt8) : ∀ (n : Nat) (s : ByteArray), Lib.countB s ⟨#[x]⟩ = n → (Lib.splitB ⟨#[x]⟩ 0 n s).map (fun p => p.data.toList) = cutAt x s.data.toList
  | n, s, h => by
    have hx : Lib.indexB s ⟨#[x]⟩ = Lib.indexByte s.data.toList x := Lib.index_one s.data.toList x
    by_cases hm : Lib.indexB s ⟨#[x]⟩ = -1
    · rw [Lib.splitB_miss _ _ _ _ hm]
      rw [hx] at hm
      rw [cut_none _ (byte_miss x _ hm)]; rfl
    · have hge := Lib.indexByte_ge s.data.toList x
      obtain ⟨i, hi⟩ : ∃ i : Nat, Lib.indexB s ⟨#[x]⟩ = i := ⟨(Lib.indexB s ⟨#[x]⟩).toNat, by omega⟩
      have hc := Lib.countB_hit s ⟨#[x]⟩ i (Nat.le_refl 1) hi
      obtain ⟨m, rfl⟩ : ∃ m, n = m + 1 := ⟨n - 1, by omega⟩
      rw [Lib.splitB_hit _ _ _ _ _ hi]
      have hrec := split_cut x m (s.extract (i + (⟨#[x]⟩ : ByteArray).size) s.size) (by omega)
      rw [List.map_cons, hrec]
      rw [hx] at hi
      obtain ⟨h1, h2⟩ := byte_hit x _ _ hi
      have e := cut_at (s.data.toList.take i) (s.data.toList.drop (i + 1)) h1
      rw [← h2] at e
      rw [e]
      have e1 : (s.extract 0 (i + 0)).data.toList = s.data.toList.take i := by simp
      have e2 : (s.extract (i + (⟨#[x]⟩ : ByteArray).size) s.size).data.toList = s.data.toList.drop (i + 1) := by
        rw [show (⟨#[x]⟩ : ByteArray).size = 1 from rfl]
        simp
        rw [List.take_of_length_le (by simp)]
      rw [e1, e2]
theorem psplit_any (x : UInt8) (s : B) (hs : s.length ≤ 4294967280) (w : World) (hE : Env w) : Calls Tryd.prog 42 #[.string (str s), .string ⟨#[x]⟩] w fun e w' => ∃ p c, e = .returned (.slice p (cutAt x s).length c) ∧ OwnS w' w.heap.size (.slice p (cutAt x s).length c) (cutAt x s) ∧ Below w.heap.size w w' := by
  obtain ⟨m, hm⟩ := hE.most
  refine (Tryd.strings_Split (str s) ⟨#[x]⟩ m w (by rw [str_size]; omega) hm (Nat.le_refl 1)).mono ?_
  rintro e w' ⟨rfl, rfl⟩
  have hcut := split_cut x _ (str s) rfl
  rw [show (str s).data.toList = s by simp] at hcut
  have hlen : (Lib.splitB ⟨#[x]⟩ 0 (Lib.countB (str s) ⟨#[x]⟩) (str s)).length = Lib.countB (str s) ⟨#[x]⟩ + 1 := Lib.splitB_all ⟨#[x]⟩ (Nat.le_refl 1) 0 _ (str s) rfl
  have hl2 : (cutAt x s).length = Lib.countB (str s) ⟨#[x]⟩ + 1 := by rw [← hlen, ← hcut, List.length_map]
  have hle := Lib.countB_le ⟨#[x]⟩ (Nat.le_refl 1) _ (str s) (Nat.le_refl _)
  rw [str_size] at hle
  have hcells : (Lib.splitB ⟨#[x]⟩ 0 (Lib.countB (str s) ⟨#[x]⟩) (str s)).map Value.string = strC (cutAt x s) := by
    rw [← hcut]
    unfold strC
    rw [List.map_map]
    rfl
  refine ⟨some ⟨w.heap.size, 0, none⟩, Lib.countB (str s) ⟨#[x]⟩ + 1, by rw [hl2], ?_, below_new _ _⟩
  refine ⟨by simp [strC], .inr ⟨w.heap.size, Lib.countB (str s) ⟨#[x]⟩ + 1, _, rfl, Nat.le_refl _, heap_alloc_new w _, by omega, by unfold maxLen; omega, by simp [hlen], ?_⟩⟩
  rw [hcells]
  exact List.take_of_length_le (by simp [strC])
theorem pcount_any (x : UInt8) (s : B) (w : World) : Calls Tryd.prog 41 #[.string (str s), .string ⟨#[x]⟩] w fun e w' => e = .returned (.int .i64 ((s.count x : Nat) : Int)) ∧ w' = w := Tryd.strings_Count_one (str s) x w
theorem count_cut (x : UInt8) : ∀ s : B, (cutAt x s).length = s.count x + 1
  | [] => rfl
  | b :: l => by
    have ih := count_cut x l
    rw [cutAt]
    by_cases h : b = x
    · rw [if_pos h, h, List.count_cons_self, List.length_cons, ih]
    · rw [if_neg h, List.count_cons_of_ne (by simpa using h)]
      cases hc : cutAt x l with
      | nil => exact absurd hc (cut_ne x l)
      | cons p r => rw [hc] at ih; simpa using ih
theorem pprefix_any (s : B) (w : World) : Calls Tryd.prog 58 #[.string (str s), .string ⟨#[47]⟩] w fun e w' => e = .returned (.bool (decide (s.head? = some 47))) ∧ w' = w := by
  refine (Tryd.strings_HasPrefix (str s) ⟨#[47]⟩ w).mono ?_
  rintro e w' ⟨rfl, rfl⟩
  refine ⟨?_, rfl⟩
  have : Lib.hasPrefix (str s).data.toList (⟨#[47]⟩ : ByteArray).data.toList = decide (s.head? = some 47) := by
    show ([47] : List UInt8).isPrefixOf s = _
    cases s with
    | nil => rfl
    | cons c l =>
      simp only [List.isPrefixOf, Bool.and_true, List.head?_cons, Option.some.injEq]
      rw [Bool.eq_iff_iff]
      simp only [beq_iff_eq, decide_eq_true_eq]
      exact eq_comm
  rw [this]
theorem Own.cap {w : World} {base n c : Nat} {p : Option Addr} {acc : B} (h : Own w base (.slice p n c) acc) : n ≤ c := by
  rcases h.2 with ⟨h1, h2⟩ | ⟨g, cap, cur, h1, h2, h3, h4, _⟩
  · cases h1; exact Nat.le_refl _
  · cases h1; exact h4
theorem Own.less {w : World} {base n c : Nat} {p : Option Addr} {a b : B} (h : Own w base (.slice p n c) (a ++ b)) : Own w base (.slice p a.length c) a := by
  rcases h.2 with ⟨h1, h2⟩ | ⟨g, cap, cur, h1, h2, h3, h4, h5, h6, h7⟩
  · cases h1
    have ha : a = [] := List.eq_nil_of_length_eq_zero (by rw [List.length_append] at h2; omega)
    subst ha
    exact Own.nil w base
  · simp only [Value.slice.injEq] at h1
    obtain ⟨rfl, _, rfl⟩ := h1
    refine ⟨by simp [Lib.byteCells], .inr ⟨g, c, cur, rfl, h2, h3, by rw [List.length_append] at h4; omega, h5, h6, ?_⟩⟩
    have e : (cur.toList.take ((a ++ b).length * 1)).take (a.length * 1) = Lib.byteCells a := by
      rw [h7]
      simp [Lib.byteCells]
    rw [List.take_take] at e
    rw [← e]
    congr 1
    simp
theorem Own.at {w : World} {base n c j : Nat} {p : Option Addr} {acc : B} {y : UInt8} (h : Own w base (.slice p n c) acc) (hj : acc[j]? = some y) : ∃ g o, p = some ⟨g, o, none⟩ ∧ w.cell? ⟨g, o + j, none⟩ = some (.int .u8 (y.toNat : Int)) := by
  have hlt : j < acc.length := (List.getElem?_eq_some_iff.1 hj).1
  rcases h.2 with ⟨h1, h2⟩ | ⟨g, cap, cur, h1, h2, h3, h4, _, h6, h7⟩
  · omega
  · refine ⟨g, 0, by cases h1; rfl, ?_⟩
    have e : (cur.toList.take (acc.length * 1))[j]? = some (.int .u8 (y.toNat : Int)) := by
      rw [h7]
      simp [Lib.byteCells, hj]
    rw [List.getElem?_take, if_pos (by omega)] at e
    simp only [Nat.zero_add]
    simp only [World.cell?, h3]
    simpa using e
set_option maxRecDepth 20000 in
set_option maxHeartbeats 8000000 in
/-- The last slash of what ends in a piece without one. -/
theorem last_any (base : Nat) (a b : B) (hb : ∀ y ∈ b, y ≠ (47 : UInt8)) (n : Nat) (hn : (a ++ 47 :: b).length = n) (hl : n ≤ 140737488355328) (p : Option Addr) (c : Nat) (w : World) (ho : Own w base (.slice p n c) (a ++ 47 :: b)) :
    Calls Tryd.prog 62 #[.slice p n c, .int .u8 47] w fun e w' => e = .returned (.int .i64 (a.length : Int)) ∧ w' = w := by
  have HO := hid ho
  obtain ⟨la, hla⟩ : ∃ la, a.length = la := ⟨_, rfl⟩
  have HA := hid hla
  have hlt : la < n := by rw [← hn, List.length_append, hla]; simp
  have HAt := hid (show (a ++ 47 :: b)[la]? = some 47 from by rw [← hla]; simp)
  have HBe := hid (show ∀ i y, la < i → (a ++ 47 :: b)[i]? = some y → y ≠ 47 from fun i y hi hy => by
    rw [List.getElem?_append_right (by omega)] at hy
    obtain ⟨k, hk⟩ : ∃ k, i - a.length = k + 1 := ⟨i - a.length - 1, by omega⟩
    rw [hk, List.getElem?_cons_succ] at hy
    exact hb y (List.mem_of_getElem? hy))
  have HN := hid hn
  obtain ⟨g, o, rfl, hc0⟩ := HO.out.at HAt.out
  have HK := hid (show ∀ i y, (a ++ 47 :: b)[i]? = some y → w.cell? ⟨g, o + i, none⟩ = some (.int .u8 (y.toNat : Int)) from fun i y hy => by
    obtain ⟨g', o', e', h'⟩ := HO.out.at hy
    cases e'
    exact h')
  rw [hla]
  clear hla ho hb hn hc0
  go_enter Tryd.func62, Tryd.ntmps62
  go_wp2
  go_loopg [5] n (fun gk s5 wr => ∃ i : Nat, la ≤ i ∧ i < n ∧ gk = i + 1 ∧ s5 = .int .i64 (i : Int) ∧ wr = w)
  case atStart => exact ⟨n - 1, by omega, by omega, by omega, by go_num, rfl⟩
  case round =>
    obtain ⟨i, hi, hin, rfl, rfl, rfl⟩ := hrel
    have hi1 : i < (a ++ 47 :: b).length := by rw [HN.out]; exact hin
    obtain ⟨y, hy⟩ : ∃ y, (a ++ 47 :: b)[i]? = some y := ⟨_, List.getElem?_eq_getElem hi1⟩
    have hcell := HK.out i y hy
    have HY := hid hy
    clear hi1 hy
    by_cases he : i = la
    · subst he
      obtain rfl : y = 47 := Option.some.inj (HY.out.symm.trans HAt.out)
      go_wp2
      go_ret
      exact ⟨rfl, rfl⟩
    · have hne := HBe.out i y (by omega) HY.out
      have z1 : ¬ (y.toNat : Int) = 47 := fun e => hne (UInt8.toNat_inj.1 (by show y.toNat = 47; omega))
      have z2 : ((y.toNat : Int) == 47) = false := by simpa using z1
      have hpos : 0 < i := by omega
      clear hne
      go_wp2
      go_roundg (i - 1 + 1)
      case measure => omega
      case rel => exact ⟨i - 1, by omega, by omega, by omega, by go_num, rfl⟩
end Go.Proofs.YtbdbmlklijmefaaDoor
