/- Small letters. -/
import Derived.Test.YtfmkkkkdfkjdlaaDoorCBytes
import Derived.Laws.IdiomStrings
import Derived.Lib.ItoaMem
import Derived.Deep.QuietTactic
import Derived.BigQuiet
namespace Go.Proofs.YtfmkkkkdfkjdlaaDoor
open Go.RowKit

def smallU (b : UInt8) : UInt8 := if 65 ≤ b.toNat ∧ b.toNat ≤ 90 then UInt8.ofNat (b.toNat + 32) else b
theorem smallU_val (b : UInt8) : ((smallU b).toNat : Int) = smallV (b.toNat : Int) := by
  unfold smallU smallV
  by_cases h : 65 ≤ b.toNat ∧ b.toNat ≤ 90
  · rw [if_pos h, if_pos (by omega)]
    rw [UInt8.toNat_ofNat']
    omega
  · rw [if_neg h, if_neg (by omega)]
def lowL (s : ByteArray) : List UInt8 := s.data.toList.map smallU
def lowS (s : ByteArray) : ByteArray := ⟨(lowL s).toArray⟩
def lowA (s : ByteArray) (k cap : Nat) : Array Value :=
  (((s.data.toList.take k).map smallU ++ s.data.toList.drop k).map (fun b : UInt8 => Value.int .u8 (b.toNat : Int)) ++ List.replicate (cap - s.size) (Value.int .u8 0)).toArray
theorem lowA_zero (s : ByteArray) (cap : Nat) : bytesRow s cap = lowA s 0 cap := by
  apply Array.toList_inj.1; simp [lowA, bytesRow]
theorem lowA_size (s : ByteArray) (k cap : Nat) (h : k ≤ s.size) : (lowA s k cap).size = s.size + (cap - s.size) := by
  simp [lowA]; omega
theorem lowA_at (s : ByteArray) (k cap : Nat) (h : k < s.size) : (lowA s k cap)[k]? = some (.int .u8 (s[k].toNat : Int)) := by
  simp only [lowA, List.getElem?_toArray]
  rw [List.getElem?_append_left (by simp; omega), List.getElem?_map, List.getElem?_append_right (by simp; omega), List.getElem?_drop]
  have : k + (k - ((s.data.toList.take k).map smallU).length) = k := by simp; omega
  rw [this, List.getElem?_eq_getElem (by simpa using h)]
  rfl
theorem lowA_set (s : ByteArray) (k cap : Nat) (h : k < s.size) : (lowA s k cap).setIfInBounds k (.int .u8 (smallV (s[k].toNat : Int))) = lowA s (k + 1) cap := by
  apply Array.toList_inj.1
  rw [← smallU_val]
  simp only [lowA, Array.toList_setIfInBounds]
  have e1 : s.data.toList.drop k = s[k] :: s.data.toList.drop (k + 1) := by
    rw [List.drop_eq_getElem_cons (by simpa using h)]; rfl
  rw [e1, take_snoc s k h, List.set_append_left _ _ (by simp; omega)]
  congr 1
  simp only [List.map_append, List.map_cons, List.map_nil, List.append_assoc]
  rw [List.set_append_right _ _ (by simp; omega)]
  have : k - (((s.data.toList.take k).map smallU).map fun b => Value.int .u8 (b.toNat : Int)).length = 0 := by simp; omega
  rw [this]
  simp
theorem lowA_end (s : ByteArray) (cap j : Nat) (h : j < (lowL s).length) : (lowA s s.size cap)[j]? = some (.int .u8 (((lowL s)[j]).toNat : Int)) := by
  have hj : j < s.size := by simpa [lowL] using h
  simp only [lowA, List.getElem?_toArray]
  rw [List.getElem?_append_left (by simp; omega), List.getElem?_map, List.take_of_length_le (by simp), List.drop_eq_nil_of_le (by simp), List.append_nil]
  show ((lowL s)[j]?).map _ = _
  rw [List.getElem?_eq_getElem h]
  rfl

theorem mk_cell (w : World) (A : Array Value) (e : TypeId) (fz : Nat × Nat) (j : Nat) : (w.alloc (.cells A e fz)).cell? ⟨w.heap.size, j, none⟩ = A[j]? :=
  cell_of_row _ _ _ _ _ _ (heap_alloc_new w _)
theorem mk_frozen (w : World) (A : Array Value) (e : TypeId) (z y j : Nat) (h : j < z) : (w.alloc (.cells A e (z, y))).frozen? ⟨w.heap.size, j, none⟩ = false := by
  simp only [World.frozen?, heap_alloc_new w _]
  simp; omega
theorem mk_set (w : World) (A : Array Value) (e : TypeId) (fz : Nat × Nat) (j : Nat) (v : Value) : (w.alloc (.cells A e fz)).setCell ⟨w.heap.size, j, none⟩ v = w.alloc (.cells (A.setIfInBounds j v) e fz) := by
  unfold World.setCell World.alloc
  congr 1
  apply Array.ext_getElem?
  intro k
  rw [Array.getElem?_modify]
  by_cases hk : w.heap.size = k
  · subst hk
    simp
  · have hk' : k ≠ w.heap.size := fun e => hk e.symm
    simp [hk, hk', Array.getElem?_push]
theorem info5 : (Tryd.prog.info? 5).map (fun i => (i.zero, i.size, i.bytes)) = some (some (.int .u8 0), 1, 1) := by kernel_rfl
def lowV (b : UInt8) : Value := .int .u8 (b.toNat : Int)
def lowT (s : ByteArray) (k : Nat) : List Value := ((s.data.toList.take k).map smallU).map lowV
theorem lowT_len (s : ByteArray) (k : Nat) (h : k ≤ s.size) : (lowT s k).length = k := by simp [lowT]; omega
theorem lowT_snoc (s : ByteArray) (k : Nat) (h : k < s.size) : lowT s (k + 1) = lowT s k ++ [.int .u8 (smallV (s[k].toNat : Int))] := by
  unfold lowT; rw [take_snoc s k h, ← smallU_val]; simp [lowV]

theorem one_cellL (w : World) (x : Value) (e : TypeId) : ∀ j u, [x][j]? = some u → (w.alloc (.cells #[x] e)).cell? ((⟨w.heap.size, 0, none⟩ : Addr).add j) = some u := by
  intro j u hj
  match j, hj with
  | 0, hj => simp at hj; subst hj; simp [Addr.add]
theorem one_plainL (k : IntKind) (x : Int) : ∀ u, u ∈ [Value.int k x] → u.oneCell' = true := by
  intro u hu; simp at hu; subst hu; rfl
theorem app_belowL {w wr w1 : World} {o : Obj} {v : Value} {e : TypeId} {size k : Nat} {xs : List Value} (hbel : Below w.heap.size w wr) (hown : wr.ownsRow w.heap.size e size v k xs) (hg : (wr.alloc o).grownBy w1 v.ownBlock) : Below w.heap.size w w1 :=
  (hbel.alloc hbel.size o).grown hg (by have h1 := hbel.size; have h2 : wr.heap.size ≤ (wr.alloc o).heap.size := by simp
                                        omega) (fun k hk => (hown.lt k hk).1)
theorem lowT_all (s : ByteArray) : lowT s s.size = (lowL s).map lowV := by
  unfold lowT lowL; rw [List.take_of_length_le (by simp)]
theorem own_bytesL {W : World} {B n : Nat} {v : Value} {l : List UInt8} (h : W.ownsRow B 5 1 v n (l.map lowV)) : (convert 22 9 v).run Tryd.prog W = .ok (.string ⟨l.toArray⟩) W := by
  have hn : l.length = n := by have := h.1; simpa using this
  rcases h.2 with ⟨rfl, rfl⟩ | ⟨g, cap, cur, rfl, _⟩
  · have hl : l = [] := List.eq_nil_of_length_eq_zero hn
    subst hl
    exact run_convert_bytes_nil W 22 5 Tryd.underlying22 Tryd.underlying5 0 0 9 Tryd.underlying9
  · subst hn
    refine run_convert_bytes_back W 22 9 5 ⟨g, 0, none⟩ cap l Tryd.underlying22 Tryd.underlying5 Tryd.underlying9 (fun j hj => ?_)
    rw [Lib.add_plain, Nat.zero_add, h.cellAt j (by omega)]
    simp [hj, lowV]
theorem own_string {W : World} {B : Nat} {v : Value} {s : ByteArray} (h : W.ownsRow B 5 1 v s.size (lowT s s.size)) : (convert 22 9 v).run Tryd.prog W = .ok (.string (lowS s)) W := by
  rw [lowT_all] at h
  exact own_bytesL h
set_option maxRecDepth 20000 in
set_option maxHeartbeats 1000000 in
theorem rlower_any (s : ByteArray) (w : World) (hs : s.size ≤ 140737488351232) :
    Calls Tryd.prog 61 #[.string s] w fun e w' => e = .returned (.string (lowS s)) ∧ Below w.heap.size w w' := by
  obtain ⟨i0, hi, hz0, hz1, hz2⟩ := info_parts info5
  go_enter Tryd.func61, Tryd.ntmps61
  go_wp2
  go_loopw [3, 4] (fun v i W => ∃ k : Nat, k ≤ s.size ∧ i = .int .i64 k ∧ W.ownsRow w.heap.size 5 1 v k (lowT s k) ∧ Below w.heap.size w W) (fun _ i _ => s.size - (intOf i).toNat)
  case atStart => exact ⟨0, Nat.zero_le _, rfl, World.ownsRow_nil _ _ _ _, Below.refl _ _⟩
  case round =>
    obtain ⟨k, hk, rfl, hown, hbel⟩ := hrel
    rename World => wr
    by_cases hlt : k < s.size
    · have hb := s[k].toNat_lt
      have hsz := hbel.size
      by_cases hup : 65 ≤ (s[k].toNat : Int) ∧ (s[k].toNat : Int) ≤ 90
      · obtain ⟨hu1, hu2⟩ := hup
        have hsn := Lib.hid ((lowT_snoc s k hlt).trans (by rw [show smallV (s[k].toNat : Int) = (s[k].toNat : Int) - 65 + 97 by unfold smallV; rw [if_pos ⟨hu1, hu2⟩]; omega]))
        go_wp2_with (first
          | (at_builtin; refine wpList_append_own _ rfl _ _ 22 rfl w.heap.size 5 i0 (.int .u8 0) 1 1 Tryd.underlying22 hi hz0 hz1 hz2 rfl (by decide) _ _ _ rfl (hown.alloc _) ⟨wr.heap.size, 0, none⟩ 1 1 [.int .u8 ((s[k].toNat : Int) - 65 + 97)] rfl rfl (one_cellL _ _ _) (one_plainL _ _) (by unfold maxLen; omega) (by omega) (by simp; omega) ?_; intro v' w1 hown' hgrow _)
          | go_in)
        have hb1 := app_belowL hbel hown hgrow
        rw [← hsn.out] at hown'
        clear hown hgrow hbel
        go_wp2
        go_roundw
        case rel => exact ⟨k + 1, by omega, by go_num, hown', hb1⟩
        case measure => simp [intOf]; omega
      · have hsn := Lib.hid ((lowT_snoc s k hlt).trans (by rw [show smallV (s[k].toNat : Int) = (s[k].toNat : Int) by unfold smallV; rw [if_neg hup]]))
        have hup' : (s[k].toNat : Int) < 65 ∨ 90 < (s[k].toNat : Int) := by omega
        clear hup
        rcases hup' with hup | hup
        · go_wp2_with (first
            | (at_builtin; refine wpList_append_own _ rfl _ _ 22 rfl w.heap.size 5 i0 (.int .u8 0) 1 1 Tryd.underlying22 hi hz0 hz1 hz2 rfl (by decide) _ _ _ rfl (hown.alloc _) ⟨wr.heap.size, 0, none⟩ 1 1 [.int .u8 ((s[k].toNat : Int))] rfl rfl (one_cellL _ _ _) (one_plainL _ _) (by unfold maxLen; omega) (by omega) (by simp; omega) ?_; intro v' w1 hown' hgrow _)
            | go_in)
          have hb1 := app_belowL hbel hown hgrow
          rw [← hsn.out] at hown'
          clear hown hgrow hbel
          go_wp2
          go_roundw
          case rel => exact ⟨k + 1, by omega, by go_num, hown', hb1⟩
          case measure => simp [intOf]; omega
        · go_wp2_with (first
            | (at_builtin; refine wpList_append_own _ rfl _ _ 22 rfl w.heap.size 5 i0 (.int .u8 0) 1 1 Tryd.underlying22 hi hz0 hz1 hz2 rfl (by decide) _ _ _ rfl (hown.alloc _) ⟨wr.heap.size, 0, none⟩ 1 1 [.int .u8 ((s[k].toNat : Int))] rfl rfl (one_cellL _ _ _) (one_plainL _ _) (by unfold maxLen; omega) (by omega) (by simp; omega) ?_; intro v' w1 hown' hgrow _)
            | go_in)
          have hb1 := app_belowL hbel hown hgrow
          rw [← hsn.out] at hown'
          clear hown hgrow hbel
          go_wp2
          go_roundw
          case rel => exact ⟨k + 1, by omega, by go_num, hown', hb1⟩
          case measure => simp [intOf]; omega
    · have hk' : k = s.size := by omega
      subst hk'
      have hcv := own_string hown
      go_wp2
      go_ret
      exact ⟨rfl, hbel⟩
end Go.Proofs.YtfmkkkkdfkjdlaaDoor
/- Likeness of two texts, of package chars and the document's: whether their small texts are one; nothing in memory that was there turns. -/
namespace Go.Proofs.YtfmkkkkdfkjdlaaDoor
open Go.RowKit

def sameB (a b : ByteArray) : Bool := decide (lowS a = lowS b)
theorem lowL_len (a : ByteArray) : (lowL a).length = a.size := by simp [lowL]
theorem lowL_at (a : ByteArray) (k : Nat) (h : k < a.size) : (lowL a)[k]? = some (smallU a[k]) := by
  unfold lowL
  rw [List.getElem?_map, List.getElem?_eq_getElem (by simpa using h)]; rfl
theorem lowS_inj {a b : ByteArray} : lowS a = lowS b ↔ lowL a = lowL b := by
  constructor
  · intro h
    have := congrArg (fun x : ByteArray => x.data.toList) h
    simpa [lowS] using this
  · intro h; unfold lowS; rw [h]
theorem small_eq_iff (x y : UInt8) : smallV (x.toNat : Int) = smallV (y.toNat : Int) ↔ smallU x = smallU y := by
  rw [← smallU_val, ← smallU_val]
  constructor
  · intro h; exact UInt8.toNat_inj.1 (by omega)
  · intro h; rw [h]
theorem same_size {a b : ByteArray} (h : ¬ a.size = b.size) : sameB a b = false := by
  unfold sameB
  rw [decide_eq_false_iff_not, lowS_inj]
  intro e
  have := congrArg List.length e
  rw [lowL_len, lowL_len] at this
  exact h this
theorem same_stop {a b : ByteArray} {k : Nat} (ha : k < a.size) (hb : k < b.size) (h : ¬ smallV (a[k].toNat : Int) = smallV (b[k].toNat : Int)) : sameB a b = false := by
  unfold sameB
  rw [decide_eq_false_iff_not, lowS_inj]
  intro e
  have := congrArg (·[k]?) e
  simp only [lowL_at a k ha, lowL_at b k hb, Option.some.injEq] at this
  exact h ((small_eq_iff _ _).2 this)
def likeTo (a b : ByteArray) (k : Nat) : Prop := (lowL a).take k = (lowL b).take k
theorem likeTo_step {a b : ByteArray} {k : Nat} (ha : k < a.size) (hb : k < b.size) (h : smallV (a[k].toNat : Int) = smallV (b[k].toNat : Int)) (hl : likeTo a b k) : likeTo a b (k + 1) := by
  unfold likeTo at *
  rw [List.take_add_one, List.take_add_one, hl, lowL_at a k ha, lowL_at b k hb, (small_eq_iff _ _).1 h]
theorem likeTo_end {a b : ByteArray} (hs : a.size = b.size) (hl : likeTo a b a.size) : sameB a b = true := by
  unfold likeTo at hl
  rw [List.take_of_length_le (by rw [lowL_len]; omega), List.take_of_length_le (by rw [lowL_len]; omega)] at hl
  unfold sameB
  rw [decide_eq_true_eq, lowS_inj]; exact hl

set_option maxHeartbeats 1000000 in
theorem same_any (a b : ByteArray) (w : World) (ha : a.size ≤ maxLen) (hb : b.size ≤ maxLen) :
    Calls Tryd.prog 42 #[.string a, .string b] w fun e w' => e = .returned (.bool (sameB a b)) ∧ ∃ m, w' = w.drewN m := by
  unfold maxLen at ha hb
  by_cases hs : a.size = b.size
  · have hs' : (a.size : Int) = (b.size : Int) := by omega
    have HS := Lib.hid hs
    have hle : b.size ≤ a.size := by omega
    go_enter Tryd.func42, Tryd.ntmps42
    go_wp2
    clear hs hs'
    go_loopw [13] (fun i W => ∃ k m : Nat, k ≤ b.size ∧ i = .int .i64 k ∧ W = w.drewN m ∧ likeTo a b k) (fun i _ => b.size - (intOf i).toNat)
    case atStart => exact ⟨0, 0, Nat.zero_le _, rfl, rfl, rfl⟩
    case round =>
      obtain ⟨k, m, hk, rfl, hW, hl⟩ := hrel
      rename World => wr
      have HW := Lib.hid hW
      clear hW
      by_cases hlt : k < b.size
      · have hlta : k < a.size := by omega
        have hlti : (k : Int) < (a.size : Int) := by omega
        have hba := a[k].toNat_lt
        have hbb := b[k].toNat_lt
        by_cases he : smallV (a[k].toNat : Int) = smallV (b[k].toNat : Int)
        · have hl' := likeTo_step hlta hlt he hl
          have he' := Lib.hid he
          have hbe : (smallV (a[k].toNat : Int) == smallV (b[k].toNat : Int)) = true := by simpa using he
          clear he hl
          go_wp2
          go_quiet ((go_at_call 59; exact Calls.quiet_of_same (small_any _ _ (by omega) (by omega))))
          go_wp2
          go_roundw
          case rel => exact ⟨k + 1, m + nq, by omega, by go_num, by rw [HW.out, World.drewN_drewN], hl'⟩
          case measure => simp [intOf]; omega
        · have hF := Lib.hid (same_stop hlta hlt he)
          have hbe : (smallV (a[k].toNat : Int) == smallV (b[k].toNat : Int)) = false := by simpa using he
          go_wp2
          go_quiet ((go_at_call 59; exact Calls.quiet_of_same (small_any _ _ (by omega) (by omega))))
          go_wp2
          go_ret
          exact ⟨ret_bool hF.out.symm, m + nq, by rw [HW.out, World.drewN_drewN]⟩
      · have hT := Lib.hid (likeTo_end HS.out (by rw [HS.out, show b.size = k by omega]; exact hl))
        go_wp2
        go_ret
        exact ⟨ret_bool hT.out.symm, m, HW.out⟩
  · have hF := Lib.hid (same_size hs)
    have hs' : ¬ (a.size : Int) = (b.size : Int) := by omega
    have hb' := hb
    go_enter Tryd.func42, Tryd.ntmps42
    go_wp2
    go_ret
    exact ⟨ret_bool hF.out.symm, 0, rfl⟩

theorem eq_toList (a b : ByteArray) : (a.toList == b.toList) = decide (a = b) := by
  rw [Lib.toList_data, Lib.toList_data, Bool.eq_iff_iff]
  simp only [beq_iff_eq, decide_eq_true_eq, Array.toList_inj]
  exact ⟨fun h => ByteArray.ext h, fun h => by rw [h]⟩
set_option maxHeartbeats 400000 in
theorem rsame_any (a b : ByteArray) (w : World) (ha : a.size ≤ 140737488351232) (hb : b.size ≤ 140737488351232) :
    Calls Tryd.prog 44 #[.string a, .string b] w fun e w' => e = .returned (.bool (sameB a b)) ∧ Below w.heap.size w w' := by
  have hB := Below.refl w.heap.size w
  go_enter Tryd.func44, Tryd.ntmps44
  go_wp2_with (go_at_call 61; refine (rlower_any _ _ (by assumption)).mono ?_; rintro e w' ⟨rfl, hbb⟩; replace hB := hB.trans (hbb.mono hB.size); clear hbb)
  go_ret
  exact ⟨ret_bool (eq_toList _ _), hB⟩
end Go.Proofs.YtfmkkkkdfkjdlaaDoor
