/- Small letters and likeness of the package chars. -/
import Derived.Test.YtbdbmlklijmefaaDoorPLib
import Derived.Laws.IdiomStrings
import Derived.Lib.ItoaMem
namespace Go.Proofs.YtbdbmlklijmefaaDoor
open Go.RowKit

def smallV (c : Int) : Int := if 65 ≤ c ∧ c ≤ 90 then c + 32 else c
theorem smallV_bd {c : Int} (h0 : 0 ≤ c) (h1 : c ≤ 255) : 0 ≤ smallV c ∧ smallV c ≤ 255 := by unfold smallV; split <;> omega
theorem take_snoc (s : ByteArray) (k : Nat) (h : k < s.size) : s.data.toList.take (k + 1) = s.data.toList.take k ++ [s[k]] := by
  rw [List.take_succ_eq_append_getElem (by simpa using h)]; rfl
theorem ret_int {k : IntKind} {a b : Int} (h : a = b) : Ending.returned (.int k a) = .returned (.int k b) := by rw [h]
set_option maxHeartbeats 400000 in
theorem small_any (c : Int) (w : World) (h0 : 0 ≤ c) (h1 : c ≤ 255) :
    Calls Tryd.prog 75 #[.int .u8 c] w fun e w' => e = .returned (.int .u8 (smallV c)) ∧ w' = w := by
  by_cases h : 65 ≤ c ∧ c ≤ 90
  · obtain ⟨ha, hb⟩ := h
    go_enter Tryd.func75, Tryd.ntmps75
    go_wp2
    go_ret
    exact ⟨ret_int (by unfold smallV; rw [if_pos ⟨ha, hb⟩]), rfl⟩
  · go_enter Tryd.func75, Tryd.ntmps75
    go_wp2
    all_goals
      go_ret
      exact ⟨ret_int (by unfold smallV; rw [if_neg h]), rfl⟩

def smallU (b : UInt8) : UInt8 := if 65 ≤ b.toNat ∧ b.toNat ≤ 90 then UInt8.ofNat (b.toNat + 32) else b
theorem smallU_val (b : UInt8) : ((smallU b).toNat : Int) = smallV (b.toNat : Int) := by
  unfold smallU smallV
  by_cases h : 65 ≤ b.toNat ∧ b.toNat ≤ 90
  · rw [if_pos h, if_pos (by omega)]
    rw [UInt8.toNat_ofNat']
    omega
  · rw [if_neg h, if_neg (by omega)]
def lowL (s : ByteArray) : List UInt8 := s.data.toList.map smallU
def lowS (s : ByteArray) : ByteArray := ⟨(lowL s).toArray⟩
def lowA (s : ByteArray) (k cap : Nat) : Array Value :=
  (((s.data.toList.take k).map smallU ++ s.data.toList.drop k).map (fun b : UInt8 => Value.int .u8 (b.toNat : Int)) ++ List.replicate (cap - s.size) (Value.int .u8 0)).toArray
theorem lowA_zero (s : ByteArray) (cap : Nat) : bytesRow s cap = lowA s 0 cap := by
  apply Array.toList_inj.1; simp [lowA, bytesRow]
theorem lowA_size (s : ByteArray) (k cap : Nat) (h : k ≤ s.size) : (lowA s k cap).size = s.size + (cap - s.size) := by
  simp [lowA]; omega
theorem lowA_at (s : ByteArray) (k cap : Nat) (h : k < s.size) : (lowA s k cap)[k]? = some (.int .u8 (s[k].toNat : Int)) := by
  simp only [lowA, List.getElem?_toArray]
  rw [List.getElem?_append_left (by simp; omega), List.getElem?_map, List.getElem?_append_right (by simp; omega), List.getElem?_drop]
  have : k + (k - ((s.data.toList.take k).map smallU).length) = k := by simp; omega
  rw [this, List.getElem?_eq_getElem (by simpa using h)]
  rfl
theorem lowA_set (s : ByteArray) (k cap : Nat) (h : k < s.size) : (lowA s k cap).setIfInBounds k (.int .u8 (smallV (s[k].toNat : Int))) = lowA s (k + 1) cap := by
  apply Array.toList_inj.1
  rw [← smallU_val]
  simp only [lowA, Array.toList_setIfInBounds]
  have e1 : s.data.toList.drop k = s[k] :: s.data.toList.drop (k + 1) := by
    rw [List.drop_eq_getElem_cons (by simpa using h)]; rfl
  rw [e1, take_snoc s k h, List.set_append_left _ _ (by simp; omega)]
  congr 1
  simp only [List.map_append, List.map_cons, List.map_nil, List.append_assoc]
  rw [List.set_append_right _ _ (by simp; omega)]
  have : k - (((s.data.toList.take k).map smallU).map fun b => Value.int .u8 (b.toNat : Int)).length = 0 := by simp; omega
  rw [this]
  simp
theorem lowA_end (s : ByteArray) (cap j : Nat) (h : j < (lowL s).length) : (lowA s s.size cap)[j]? = some (.int .u8 (((lowL s)[j]).toNat : Int)) := by
  have hj : j < s.size := by simpa [lowL] using h
  simp only [lowA, List.getElem?_toArray]
  rw [List.getElem?_append_left (by simp; omega), List.getElem?_map, List.take_of_length_le (by simp), List.drop_eq_nil_of_le (by simp), List.append_nil]
  show ((lowL s)[j]?).map _ = _
  rw [List.getElem?_eq_getElem h]
  rfl

theorem mk_cell (w : World) (A : Array Value) (e : TypeId) (fz : Nat × Nat) (j : Nat) : (w.alloc (.cells A e fz)).cell? ⟨w.heap.size, j, none⟩ = A[j]? :=
  cell_of_row _ _ _ _ _ _ (heap_alloc_new w _)
theorem mk_frozen (w : World) (A : Array Value) (e : TypeId) (z y j : Nat) (h : j < z) : (w.alloc (.cells A e (z, y))).frozen? ⟨w.heap.size, j, none⟩ = false := by
  simp only [World.frozen?, heap_alloc_new w _]
  simp; omega
theorem mk_set (w : World) (A : Array Value) (e : TypeId) (fz : Nat × Nat) (j : Nat) (v : Value) : (w.alloc (.cells A e fz)).setCell ⟨w.heap.size, j, none⟩ v = w.alloc (.cells (A.setIfInBounds j v) e fz) := by
  unfold World.setCell World.alloc
  congr 1
  apply Array.ext_getElem?
  intro k
  rw [Array.getElem?_modify]
  by_cases hk : w.heap.size = k
  · subst hk
    simp
  · have hk' : k ≠ w.heap.size := fun e => hk e.symm
    simp [hk, hk', Array.getElem?_push]
set_option maxHeartbeats 1000000 in
theorem lower_any (s : ByteArray) (w : World) (hs : s.size ≤ maxLen) :
    Calls Tryd.prog 59 #[.string s] w fun e w' => e = .returned (.string (lowS s)) ∧ Below w.heap.size w w' := by
  unfold maxLen at hs
  have hcv := run_bytes_of_string (P := Tryd.prog) w 9 63 5 s Tryd.underlying9 Tryd.underlying63 Tryd.underlying5
  generalize grownCap w s.size 0 5 = cap at hcv
  rw [lowA_zero, lowA_size s 0 cap (Nat.zero_le _)] at hcv
  generalize hz : s.size + (cap - s.size) = z at hcv
  go_enter Tryd.func59, Tryd.ntmps59
  go_wp2
  clear hcv
  go_loopw [10] (fun i W => ∃ k : Nat, k ≤ s.size ∧ i = .int .i64 k ∧ W = (w.alloc (.cells (lowA s k cap) 5 (z, z + 1))).drew) (fun i _ => s.size - (intOf i).toNat)
  case atStart => exact ⟨0, Nat.zero_le _, rfl, rfl⟩
  case round =>
    obtain ⟨k, hk, rfl, rfl⟩ := hrel
    by_cases hlt : k < s.size
    · have hb := s[k].toNat_lt
      have hcell := (mk_cell w (lowA s k cap) 5 (z, z + 1) k).trans (lowA_at s k cap hlt)
      have hfr := mk_frozen w (lowA s k cap) 5 z (z + 1) k (by omega)
      have hst := (mk_set w (lowA s k cap) 5 (z, z + 1) k (.int .u8 (smallV (s[k].toNat : Int)))).trans (by rw [lowA_set s k cap hlt])
      go_wp2_with (go_at_call 75; refine (small_any _ _ (by omega) (by omega)).mono ?_; rintro e w' ⟨rfl, rfl⟩)
      go_roundw
      case rel => exact ⟨k + 1, by omega, by go_num, rfl⟩
      case measure => simp [intOf]; omega
    · have hk' : k = s.size := by omega
      subst hk'
      have hcv : ∀ W, W = (w.alloc (.cells (lowA s s.size cap) 5 (z, z + 1))).drew → (convert 63 9 (.slice (some ⟨w.heap.size, 0, none⟩) s.size cap)).run Tryd.prog W = .ok (.string (lowS s)) W := fun W hW => by
        have := run_convert_bytes_back (P := Tryd.prog) W 63 9 5 ⟨w.heap.size, 0, none⟩ cap (lowL s) Tryd.underlying63 Tryd.underlying5 Tryd.underlying9 (fun j hj => by
          rw [Lib.add_plain, hW, World.cell?_drew, Nat.zero_add, mk_cell]; exact lowA_end s cap j hj)
        rw [show (lowL s).length = s.size by simp [lowL]] at this
        exact this
      have hcv' := hcv _ rfl
      clear hcv
      go_wp2
      go_ret
      exact ⟨rfl, ((Below.refl _ _).alloc (Nat.le_refl _) _).drew⟩

def sameB (a b : ByteArray) : Bool := decide (lowS a = lowS b)
theorem lowL_len (a : ByteArray) : (lowL a).length = a.size := by simp [lowL]
theorem lowL_at (a : ByteArray) (k : Nat) (h : k < a.size) : (lowL a)[k]? = some (smallU a[k]) := by
  unfold lowL
  rw [List.getElem?_map, List.getElem?_eq_getElem (by simpa using h)]; rfl
theorem lowS_inj {a b : ByteArray} : lowS a = lowS b ↔ lowL a = lowL b := by
  constructor
  · intro h
    have := congrArg (fun x : ByteArray => x.data.toList) h
    simpa [lowS] using this
  · intro h; unfold lowS; rw [h]
theorem small_eq_iff (x y : UInt8) : smallV (x.toNat : Int) = smallV (y.toNat : Int) ↔ smallU x = smallU y := by
  rw [← smallU_val, ← smallU_val]
  constructor
  · intro h; exact UInt8.toNat_inj.1 (by omega)
  · intro h; rw [h]
theorem same_size {a b : ByteArray} (h : ¬ a.size = b.size) : sameB a b = false := by
  unfold sameB
  rw [decide_eq_false_iff_not, lowS_inj]
  intro e
  have := congrArg List.length e
  rw [lowL_len, lowL_len] at this
  exact h this
theorem same_stop {a b : ByteArray} {k : Nat} (ha : k < a.size) (hb : k < b.size) (h : ¬ smallV (a[k].toNat : Int) = smallV (b[k].toNat : Int)) : sameB a b = false := by
  unfold sameB
  rw [decide_eq_false_iff_not, lowS_inj]
  intro e
  have := congrArg (·[k]?) e
  simp only [lowL_at a k ha, lowL_at b k hb, Option.some.injEq] at this
  exact h ((small_eq_iff _ _).2 this)
def likeTo (a b : ByteArray) (k : Nat) : Prop := (lowL a).take k = (lowL b).take k
theorem likeTo_step {a b : ByteArray} {k : Nat} (ha : k < a.size) (hb : k < b.size) (h : smallV (a[k].toNat : Int) = smallV (b[k].toNat : Int)) (hl : likeTo a b k) : likeTo a b (k + 1) := by
  unfold likeTo at *
  rw [List.take_add_one, List.take_add_one, hl, lowL_at a k ha, lowL_at b k hb, (small_eq_iff _ _).1 h]
theorem likeTo_end {a b : ByteArray} (hs : a.size = b.size) (hl : likeTo a b a.size) : sameB a b = true := by
  unfold likeTo at hl
  rw [List.take_of_length_le (by rw [lowL_len]; omega), List.take_of_length_le (by rw [lowL_len]; omega)] at hl
  unfold sameB
  rw [decide_eq_true_eq, lowS_inj]; exact hl

set_option maxHeartbeats 1000000 in
theorem same_any (a b : ByteArray) (w : World) (ha : a.size ≤ maxLen) (hb : b.size ≤ maxLen) :
    Calls Tryd.prog 55 #[.string a, .string b] w fun e w' => e = .returned (.bool (sameB a b)) ∧ ∃ m, w' = w.drewN m := by
  unfold maxLen at ha hb
  by_cases hs : a.size = b.size
  · have hs' : (a.size : Int) = (b.size : Int) := by omega
    have HS := Lib.hid hs
    have hle : b.size ≤ a.size := by omega
    go_enter Tryd.func55, Tryd.ntmps55
    go_wp2
    clear hs hs'
    go_loopw [13] (fun i W => ∃ k m : Nat, k ≤ b.size ∧ i = .int .i64 k ∧ W = w.drewN m ∧ likeTo a b k) (fun i _ => b.size - (intOf i).toNat)
    case atStart => exact ⟨0, 0, Nat.zero_le _, rfl, rfl, rfl⟩
    case round =>
      obtain ⟨k, m, hk, rfl, hW, hl⟩ := hrel
      rename World => wr
      have HW := Lib.hid hW
      clear hW
      by_cases hlt : k < b.size
      · have hlta : k < a.size := by omega
        have hlti : (k : Int) < (a.size : Int) := by omega
        have hba := a[k].toNat_lt
        have hbb := b[k].toNat_lt
        by_cases he : smallV (a[k].toNat : Int) = smallV (b[k].toNat : Int)
        · have hl' := likeTo_step hlta hlt he hl
          have he' := Lib.hid he
          have hbe : (smallV (a[k].toNat : Int) == smallV (b[k].toNat : Int)) = true := by simpa using he
          clear he hl
          go_wp2
          go_quiet ((go_at_call 75; exact Calls.quiet_of_same (small_any _ _ (by omega) (by omega))))
          go_wp2
          go_roundw
          case rel => exact ⟨k + 1, m + nq, by omega, by go_num, by rw [HW.out, World.drewN_drewN], hl'⟩
          case measure => simp [intOf]; omega
        · have hF := Lib.hid (same_stop hlta hlt he)
          have hbe : (smallV (a[k].toNat : Int) == smallV (b[k].toNat : Int)) = false := by simpa using he
          go_wp2
          go_quiet ((go_at_call 75; exact Calls.quiet_of_same (small_any _ _ (by omega) (by omega))))
          go_wp2
          go_ret
          exact ⟨ret_bool hF.out.symm, m + nq, by rw [HW.out, World.drewN_drewN]⟩
      · have hT := Lib.hid (likeTo_end HS.out (by rw [HS.out, show b.size = k by omega]; exact hl))
        go_wp2
        go_ret
        exact ⟨ret_bool hT.out.symm, m, HW.out⟩
  · have hF := Lib.hid (same_size hs)
    have hs' : ¬ (a.size : Int) = (b.size : Int) := by omega
    have hb' := hb
    go_enter Tryd.func55, Tryd.ntmps55
    go_wp2
    go_ret
    exact ⟨ret_bool hF.out.symm, 0, rfl⟩


set_option maxRecDepth 100000 in
theorem smallU_C (c : UInt8) : smallU c = smallC c := all256 (P := fun c => smallU c = smallC c) (by decide +kernel) c
theorem lowL_str (s : B) : lowL (str s) = smallB s := by
  unfold lowL smallB
  exact List.map_congr_left fun c _ => smallU_C c
theorem plower_any (s : B) (hs : s.length ≤ 281474976710656) (w : World) : Calls Tryd.prog 59 #[.string (str s)] w fun e w' => e = .returned (.string (str (smallB s))) ∧ Below w.heap.size w w' := by
  have h := lower_any (str s) w (by rw [str_size]; unfold maxLen; omega)
  rw [show lowS (str s) = str (smallB s) from by unfold lowS; rw [lowL_str]] at h
  exact h
theorem psame_any (a b : B) (ha : a.length ≤ 281474976710656) (hb : b.length ≤ 281474976710656) (w : World) : Calls Tryd.prog 55 #[.string (str a), .string (str b)] w fun e w' => e = .returned (.bool (decide (smallB a = smallB b))) ∧ ∃ m, w' = w.drewN m := by
  have h := same_any (str a) (str b) w (by rw [str_size]; unfold maxLen; omega) (by rw [str_size]; unfold maxLen; omega)
  rw [show sameB (str a) (str b) = decide (smallB a = smallB b) from by unfold sameB; rw [← lowL_str a, ← lowL_str b]; exact decide_eq_decide.2 lowS_inj] at h
  exact h
end Go.Proofs.YtbdbmlklijmefaaDoor
