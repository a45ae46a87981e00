/- Small letters. -/
import Derived.Test.YtkjgdfihhhdjaaaDoorCBytes
import Derived.Laws.IdiomStrings
import Derived.Lib.ItoaMem
namespace Go.Proofs.YtkjgdfihhhdjaaaDoor
open Go.RowKit

def smallU (b : UInt8) : UInt8 := if 65 ≤ b.toNat ∧ b.toNat ≤ 90 then UInt8.ofNat (b.toNat + 32) else b
theorem smallU_val (b : UInt8) : ((smallU b).toNat : Int) = smallV (b.toNat : Int) := by
  unfold smallU smallV
  by_cases h : 65 ≤ b.toNat ∧ b.toNat ≤ 90
  · rw [if_pos h, if_pos (by omega)]
    rw [UInt8.toNat_ofNat']
    omega
  · rw [if_neg h, if_neg (by omega)]
def lowL (s : ByteArray) : List UInt8 := s.data.toList.map smallU
def lowS (s : ByteArray) : ByteArray := ⟨(lowL s).toArray⟩
def lowA (s : ByteArray) (k cap : Nat) : Array Value :=
  (((s.data.toList.take k).map smallU ++ s.data.toList.drop k).map (fun b : UInt8 => Value.int .u8 (b.toNat : Int)) ++ List.replicate (cap - s.size) (Value.int .u8 0)).toArray
theorem lowA_zero (s : ByteArray) (cap : Nat) : bytesRow s cap = lowA s 0 cap := by
  apply Array.toList_inj.1; simp [lowA, bytesRow]
theorem lowA_size (s : ByteArray) (k cap : Nat) (h : k ≤ s.size) : (lowA s k cap).size = s.size + (cap - s.size) := by
  simp [lowA]; omega
theorem lowA_at (s : ByteArray) (k cap : Nat) (h : k < s.size) : (lowA s k cap)[k]? = some (.int .u8 (s[k].toNat : Int)) := by
  simp only [lowA, List.getElem?_toArray]
  rw [List.getElem?_append_left (by simp; omega), List.getElem?_map, List.getElem?_append_right (by simp; omega), List.getElem?_drop]
  have : k + (k - ((s.data.toList.take k).map smallU).length) = k := by simp; omega
  rw [this, List.getElem?_eq_getElem (by simpa using h)]
  rfl
theorem lowA_set (s : ByteArray) (k cap : Nat) (h : k < s.size) : (lowA s k cap).setIfInBounds k (.int .u8 (smallV (s[k].toNat : Int))) = lowA s (k + 1) cap := by
  apply Array.toList_inj.1
  rw [← smallU_val]
  simp only [lowA, Array.toList_setIfInBounds]
  have e1 : s.data.toList.drop k = s[k] :: s.data.toList.drop (k + 1) := by
    rw [List.drop_eq_getElem_cons (by simpa using h)]; rfl
  rw [e1, take_snoc s k h, List.set_append_left _ _ (by simp; omega)]
  congr 1
  simp only [List.map_append, List.map_cons, List.map_nil, List.append_assoc]
  rw [List.set_append_right _ _ (by simp; omega)]
  have : k - (((s.data.toList.take k).map smallU).map fun b => Value.int .u8 (b.toNat : Int)).length = 0 := by simp; omega
  rw [this]
  simp
theorem lowA_end (s : ByteArray) (cap j : Nat) (h : j < (lowL s).length) : (lowA s s.size cap)[j]? = some (.int .u8 (((lowL s)[j]).toNat : Int)) := by
  have hj : j < s.size := by simpa [lowL] using h
  simp only [lowA, List.getElem?_toArray]
  rw [List.getElem?_append_left (by simp; omega), List.getElem?_map, List.take_of_length_le (by simp), List.drop_eq_nil_of_le (by simp), List.append_nil]
  show ((lowL s)[j]?).map _ = _
  rw [List.getElem?_eq_getElem h]
  rfl

theorem mk_cell (w : World) (A : Array Value) (e : TypeId) (fz : Nat × Nat) (j : Nat) : (w.alloc (.cells A e fz)).cell? ⟨w.heap.size, j, none⟩ = A[j]? :=
  cell_of_row _ _ _ _ _ _ (heap_alloc_new w _)
theorem mk_frozen (w : World) (A : Array Value) (e : TypeId) (z y j : Nat) (h : j < z) : (w.alloc (.cells A e (z, y))).frozen? ⟨w.heap.size, j, none⟩ = false := by
  simp only [World.frozen?, heap_alloc_new w _]
  simp; omega
theorem mk_set (w : World) (A : Array Value) (e : TypeId) (fz : Nat × Nat) (j : Nat) (v : Value) : (w.alloc (.cells A e fz)).setCell ⟨w.heap.size, j, none⟩ v = w.alloc (.cells (A.setIfInBounds j v) e fz) := by
  unfold World.setCell World.alloc
  congr 1
  apply Array.ext_getElem?
  intro k
  rw [Array.getElem?_modify]
  by_cases hk : w.heap.size = k
  · subst hk
    simp
  · have hk' : k ≠ w.heap.size := fun e => hk e.symm
    simp [hk, hk', Array.getElem?_push]
set_option maxHeartbeats 1000000 in
theorem lower_any (s : ByteArray) (w : World) (hs : s.size ≤ maxLen) :
    Calls Tryd.prog 30 #[.string s] w fun e w' => e = .returned (.string (lowS s)) ∧ Below w.heap.size w w' := by
  unfold maxLen at hs
  have hcv := run_bytes_of_string (P := Tryd.prog) w 9 88 5 s Tryd.underlying9 Tryd.underlying88 Tryd.underlying5
  generalize grownCap w s.size 0 5 = cap at hcv
  rw [lowA_zero, lowA_size s 0 cap (Nat.zero_le _)] at hcv
  generalize hz : s.size + (cap - s.size) = z at hcv
  go_enter Tryd.func30, Tryd.ntmps30
  go_wp2
  clear hcv
  go_loopw [10] (fun i W => ∃ k : Nat, k ≤ s.size ∧ i = .int .i64 k ∧ W = (w.alloc (.cells (lowA s k cap) 5 (z, z + 1))).drew) (fun i _ => s.size - (intOf i).toNat)
  case atStart => exact ⟨0, Nat.zero_le _, rfl, rfl⟩
  case round =>
    obtain ⟨k, hk, rfl, rfl⟩ := hrel
    by_cases hlt : k < s.size
    · have hb := s[k].toNat_lt
      have hcell := (mk_cell w (lowA s k cap) 5 (z, z + 1) k).trans (lowA_at s k cap hlt)
      have hfr := mk_frozen w (lowA s k cap) 5 z (z + 1) k (by omega)
      have hst := (mk_set w (lowA s k cap) 5 (z, z + 1) k (.int .u8 (smallV (s[k].toNat : Int)))).trans (by rw [lowA_set s k cap hlt])
      go_wp2_with (go_at_call 46; refine (small_any _ _ (by omega) (by omega)).mono ?_; rintro e w' ⟨rfl, rfl⟩)
      go_roundw
      case rel => exact ⟨k + 1, by omega, by go_num, rfl⟩
      case measure => simp [intOf]; omega
    · have hk' : k = s.size := by omega
      subst hk'
      have hcv : ∀ W, W = (w.alloc (.cells (lowA s s.size cap) 5 (z, z + 1))).drew → (convert 88 9 (.slice (some ⟨w.heap.size, 0, none⟩) s.size cap)).run Tryd.prog W = .ok (.string (lowS s)) W := fun W hW => by
        have := run_convert_bytes_back (P := Tryd.prog) W 88 9 5 ⟨w.heap.size, 0, none⟩ cap (lowL s) Tryd.underlying88 Tryd.underlying5 Tryd.underlying9 (fun j hj => by
          rw [Lib.add_plain, hW, World.cell?_drew, Nat.zero_add, mk_cell]; exact lowA_end s cap j hj)
        rw [show (lowL s).length = s.size by simp [lowL]] at this
        exact this
      have hcv' := hcv _ rfl
      clear hcv
      go_wp2
      go_ret
      exact ⟨rfl, ((Below.refl _ _).alloc (Nat.le_refl _) _).drew⟩

theorem info5 : (Tryd.prog.info? 5).map (fun i => (i.zero, i.size, i.bytes)) = some (some (.int .u8 0), 1, 1) := by kernel_rfl
def lowV (b : UInt8) : Value := .int .u8 (b.toNat : Int)
def lowT (s : ByteArray) (k : Nat) : List Value := ((s.data.toList.take k).map smallU).map lowV
theorem lowT_len (s : ByteArray) (k : Nat) (h : k ≤ s.size) : (lowT s k).length = k := by simp [lowT]; omega
theorem lowT_snoc (s : ByteArray) (k : Nat) (h : k < s.size) : lowT s (k + 1) = lowT s k ++ [.int .u8 (smallV (s[k].toNat : Int))] := by
  unfold lowT; rw [take_snoc s k h, ← smallU_val]; simp [lowV]

theorem one_cellL (w : World) (x : Value) (e : TypeId) : ∀ j u, [x][j]? = some u → (w.alloc (.cells #[x] e)).cell? ((⟨w.heap.size, 0, none⟩ : Addr).add j) = some u := by
  intro j u hj
  match j, hj with
  | 0, hj => simp at hj; subst hj; simp [Addr.add]
theorem one_plainL (k : IntKind) (x : Int) : ∀ u, u ∈ [Value.int k x] → u.oneCell' = true := by
  intro u hu; simp at hu; subst hu; rfl
theorem app_belowL {w wr w1 : World} {o : Obj} {v : Value} {e : TypeId} {size k : Nat} {xs : List Value} (hbel : Below w.heap.size w wr) (hown : wr.ownsRow w.heap.size e size v k xs) (hg : (wr.alloc o).grownBy w1 v.ownBlock) : Below w.heap.size w w1 :=
  (hbel.alloc hbel.size o).grown hg (by have h1 := hbel.size; have h2 : wr.heap.size ≤ (wr.alloc o).heap.size := by simp
                                        omega) (fun k hk => (hown.lt k hk).1)
theorem lowT_all (s : ByteArray) : lowT s s.size = (lowL s).map lowV := by
  unfold lowT lowL; rw [List.take_of_length_le (by simp)]
theorem own_bytesL {W : World} {B n : Nat} {v : Value} {l : List UInt8} (h : W.ownsRow B 5 1 v n (l.map lowV)) : (convert 88 9 v).run Tryd.prog W = .ok (.string ⟨l.toArray⟩) W := by
  have hn : l.length = n := by have := h.1; simpa using this
  rcases h.2 with ⟨rfl, rfl⟩ | ⟨g, cap, cur, rfl, _⟩
  · have hl : l = [] := List.eq_nil_of_length_eq_zero hn
    subst hl
    exact run_convert_bytes_nil W 88 5 Tryd.underlying88 Tryd.underlying5 0 0 9 Tryd.underlying9
  · subst hn
    refine run_convert_bytes_back W 88 9 5 ⟨g, 0, none⟩ cap l Tryd.underlying88 Tryd.underlying5 Tryd.underlying9 (fun j hj => ?_)
    rw [Lib.add_plain, Nat.zero_add, h.cellAt j (by omega)]
    simp [hj, lowV]
theorem own_string {W : World} {B : Nat} {v : Value} {s : ByteArray} (h : W.ownsRow B 5 1 v s.size (lowT s s.size)) : (convert 88 9 v).run Tryd.prog W = .ok (.string (lowS s)) W := by
  rw [lowT_all] at h
  exact own_bytesL h
set_option maxRecDepth 20000 in
set_option maxHeartbeats 1000000 in
theorem rlower_any (s : ByteArray) (w : World) (hs : s.size ≤ 140737488351232) :
    Calls Tryd.prog 32 #[.string s] w fun e w' => e = .returned (.string (lowS s)) ∧ Below w.heap.size w w' := by
  obtain ⟨i0, hi, hz0, hz1, hz2⟩ := info_parts info5
  go_enter Tryd.func32, Tryd.ntmps32
  go_wp2
  go_loopw [3, 4] (fun v i W => ∃ k : Nat, k ≤ s.size ∧ i = .int .i64 k ∧ W.ownsRow w.heap.size 5 1 v k (lowT s k) ∧ Below w.heap.size w W) (fun _ i _ => s.size - (intOf i).toNat)
  case atStart => exact ⟨0, Nat.zero_le _, rfl, World.ownsRow_nil _ _ _ _, Below.refl _ _⟩
  case round =>
    obtain ⟨k, hk, rfl, hown, hbel⟩ := hrel
    rename World => wr
    by_cases hlt : k < s.size
    · have hb := s[k].toNat_lt
      have hsz := hbel.size
      by_cases hup : 65 ≤ (s[k].toNat : Int) ∧ (s[k].toNat : Int) ≤ 90
      · obtain ⟨hu1, hu2⟩ := hup
        have hsn := Lib.hid ((lowT_snoc s k hlt).trans (by rw [show smallV (s[k].toNat : Int) = (s[k].toNat : Int) - 65 + 97 by unfold smallV; rw [if_pos ⟨hu1, hu2⟩]; omega]))
        go_wp2_with (first
          | (at_builtin; refine wpList_append_own _ rfl _ _ 88 rfl w.heap.size 5 i0 (.int .u8 0) 1 1 Tryd.underlying88 hi hz0 hz1 hz2 rfl (by decide) _ _ _ rfl (hown.alloc _) ⟨wr.heap.size, 0, none⟩ 1 1 [.int .u8 ((s[k].toNat : Int) - 65 + 97)] rfl rfl (one_cellL _ _ _) (one_plainL _ _) (by unfold maxLen; omega) (by omega) (by simp; omega) ?_; intro v' w1 hown' hgrow _)
          | go_in)
        have hb1 := app_belowL hbel hown hgrow
        rw [← hsn.out] at hown'
        clear hown hgrow hbel
        go_wp2
        go_roundw
        case rel => exact ⟨k + 1, by omega, by go_num, hown', hb1⟩
        case measure => simp [intOf]; omega
      · have hsn := Lib.hid ((lowT_snoc s k hlt).trans (by rw [show smallV (s[k].toNat : Int) = (s[k].toNat : Int) by unfold smallV; rw [if_neg hup]]))
        have hup' : (s[k].toNat : Int) < 65 ∨ 90 < (s[k].toNat : Int) := by omega
        clear hup
        rcases hup' with hup | hup
        · go_wp2_with (first
            | (at_builtin; refine wpList_append_own _ rfl _ _ 88 rfl w.heap.size 5 i0 (.int .u8 0) 1 1 Tryd.underlying88 hi hz0 hz1 hz2 rfl (by decide) _ _ _ rfl (hown.alloc _) ⟨wr.heap.size, 0, none⟩ 1 1 [.int .u8 ((s[k].toNat : Int))] rfl rfl (one_cellL _ _ _) (one_plainL _ _) (by unfold maxLen; omega) (by omega) (by simp; omega) ?_; intro v' w1 hown' hgrow _)
            | go_in)
          have hb1 := app_belowL hbel hown hgrow
          rw [← hsn.out] at hown'
          clear hown hgrow hbel
          go_wp2
          go_roundw
          case rel => exact ⟨k + 1, by omega, by go_num, hown', hb1⟩
          case measure => simp [intOf]; omega
        · go_wp2_with (first
            | (at_builtin; refine wpList_append_own _ rfl _ _ 88 rfl w.heap.size 5 i0 (.int .u8 0) 1 1 Tryd.underlying88 hi hz0 hz1 hz2 rfl (by decide) _ _ _ rfl (hown.alloc _) ⟨wr.heap.size, 0, none⟩ 1 1 [.int .u8 ((s[k].toNat : Int))] rfl rfl (one_cellL _ _ _) (one_plainL _ _) (by unfold maxLen; omega) (by omega) (by simp; omega) ?_; intro v' w1 hown' hgrow _)
            | go_in)
          have hb1 := app_belowL hbel hown hgrow
          rw [← hsn.out] at hown'
          clear hown hgrow hbel
          go_wp2
          go_roundw
          case rel => exact ⟨k + 1, by omega, by go_num, hown', hb1⟩
          case measure => simp [intOf]; omega
    · have hk' : k = s.size := by omega
      subst hk'
      have hcv := own_string hown
      go_wp2
      go_ret
      exact ⟨rfl, hbel⟩
end Go.Proofs.YtkjgdfihhhdjaaaDoor
