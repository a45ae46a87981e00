/- The law package's number of an error, texts out of bytes, and the head of the statements: a line is taken, a bare byte refused. -/
import Derived.Test.YtfiiiefhchbhlaaLine
import Derived.Test.YtfiiiefhchbhlaaClone
import Derived.Laws.BytesArg
import Derived.Lib.SlBytesConst
namespace Go.Proofs.Ytfiiiefhchbhlaa
open Go.RowKit

theorem assert54 (v : Value) (w : World) : (Instr.typeAssert (.iface 54 v) 25 54 true).run Try.prog w = .ok (.tuple #[v, .bool true]) w := by kernel_rfl
set_option maxHeartbeats 400000 in
theorem num_nil (w : World) : Calls Try.prog 8 #[.nilIface] w fun e w' => e = .returned (.int .i64 0) ∧ w' = w := by
  go_enter Try.func8, Try.ntmps8
  go_wp2
  go_ret
  exact ⟨rfl, rfl⟩
set_option maxHeartbeats 400000 in
theorem num_err (c : Int) (w : World) : Calls Try.prog 8 #[.iface 54 (.int .i64 c)] w fun e w' => e = .returned (.int .i64 c) ∧ w' = w := by
  have ha := assert54 (.int .i64 c)
  go_enter Try.func8, Try.ntmps8
  go_wp2
  go_ret
  exact ⟨rfl, rfl⟩
theorem num_any (c : Int) (w : World) : Calls Try.prog 8 #[errV c] w fun e w' => e = .returned (.int .i64 c) ∧ w' = w := by
  unfold errV
  split
  · rename_i h; subst h; exact num_nil w
  · exact num_err c w

theorem conv_bytes {B : Nat} {w : World} {v : Value} {xs : List Int} (h : BytesAt B w v xs) : (convert 28 9 v).run Try.prog w = .ok (.string (strOfNums xs)) w := by
  rcases h with ⟨rfl, rfl⟩ | ⟨b, _, rfl, hb⟩
  · exact run_convert_bytes_nil w 28 5 (by kernel_rfl) (by kernel_rfl) 0 0 9 (by kernel_rfl)
  · refine run_convert_bytes_arg w 28 5 (by kernel_rfl) (by kernel_rfl) b 0 xs.length xs.length xs rfl ?_ 9 (by kernel_rfl)
    intro i hi
    simp [World.cell?, hb, List.getElem?_eq_getElem hi, List.getD]
theorem conv_src {w : World} {b o cap : Nat} {xs : List Int} (h : CellsAt w b o xs) : (convert 28 9 (.slice (some ⟨b, o, none⟩) xs.length cap)).run Try.prog w = .ok (.string (strOfNums xs)) w := by
  refine run_convert_bytes_arg w 28 5 (by kernel_rfl) (by kernel_rfl) b o xs.length cap xs rfl ?_ 9 (by kernel_rfl)
  intro i hi
  exact h i _ (by simp [List.getElem?_eq_getElem hi, List.getD])
theorem conv_none (w : World) : (convert 28 9 (.slice none 0 0)).run Try.prog w = .ok (.string (strOfNums [])) w :=
  run_convert_bytes_nil w 28 5 (by kernel_rfl) (by kernel_rfl) 0 0 9 (by kernel_rfl)

theorem lit_src (w : World) (g : Nat) (hg : g < w.heap.size) (xs : List Int) (C : Array Value) (z : Nat × Nat) (hC : C = (xs.map (Value.int .u8)).toArray) (n : Nat) (hn : n = xs.length) (hm : n ≤ 1000) : SrcAt g (w.alloc (.cells C 5 z)) (.slice (some ⟨w.heap.size, 0, none⟩) n n) xs := by
  subst hC; subst hn
  refine .inr ⟨w.heap.size, 0, xs.length, rfl, Nat.le_refl _, by unfold maxLen; omega, ?_, by omega⟩
  intro j v hj
  have hn := heap_new w (.cells (xs.map (Value.int .u8)).toArray 5 z)
  simp only [World.cell?]
  rw [hn]
  simp [hj]
theorem conv28 (w : World) (C : Array Value) (n c : Nat) : (convert 28 28 (.slice (some ⟨w.heap.size, 0, none⟩) n c)).run Try.prog (w.alloc (.cells C 5)) = .ok (.slice (some ⟨w.heap.size, 0, none⟩) n c) (w.alloc (.cells C 5 (C.size, C.size + 1))) :=
  Lib.run_convert_bytes_const (P := Try.prog) w 28 5 C n c (by kernel_rfl) (by kernel_rfl)
theorem strOf_ab : strOfNums [97, 98] = { data := #[97, 98] } := by rfl
theorem works_line1 {w : World} {r g : Nat} (h : Holds w r g 8 [97, 98, 13, 10, 99, 100, 101, 102]) :
    Calls Try.prog 16 #[.pointer (some ⟨r, 0, none⟩), .int .i64 10] w fun e w' => ∃ v, e = .returned (.tuple #[v, .nilIface]) ∧ BytesAt w.heap.size w' v [97, 98] ∧ Turn r g w w' ∧ Holds w' r g 8 [99, 100, 101, 102] := by
  refine (hline_any h 10 (by omega)).mono ?_
  rintro e w' ⟨v, rfl, hl⟩
  exact ⟨v, rfl, hl.bytes, hl.turn, hl.ring⟩
theorem works_line2 {w : World} {r g : Nat} (h : Holds w r g 8 [99, 100, 101, 102]) :
    Calls Try.prog 16 #[.pointer (some ⟨r, 0, none⟩), .int .i64 3] w fun e w' => ∃ v, e = .returned (.tuple #[v, .iface 54 (.int .i64 2)]) ∧ Turn r g w w' ∧ Holds w' r g 8 [99, 100, 101, 102] := by
  refine (hline_any h 3 (by omega)).mono ?_
  rintro e w' ⟨v, rfl, hl⟩
  exact ⟨v, rfl, hl.turn, hl.ring⟩
theorem works_write {w : World} {r g : Nat} (h : Holds w r g 8 []) (C : Array Value) (z : Nat × Nat) (hC : C = (([97, 98, 13, 10, 99, 100, 101, 102, 103, 104] : List Int).map (Value.int .u8)).toArray) :
    Calls Try.prog 12 #[.pointer (some ⟨r, 0, none⟩), .slice (some ⟨w.heap.size, 0, none⟩) 10 10] (w.alloc (.cells C 5 z)) fun e w' => e = .returned (.int .i64 8) ∧ Turn r g w w' ∧ w'.heap.size = w.heap.size + 1 ∧ Holds w' r g 8 [97, 98, 13, 10, 99, 100, 101, 102] := by
  have hb : Below w.heap.size w (w.alloc (.cells C 5 z)) := (Below.refl _ _).alloc (Nat.le_refl _) _
  refine (hwrite_any (h.below hb) (lit_src w g h.glt [97, 98, 13, 10, 99, 100, 101, 102, 103, 104] C z hC 10 rfl (by omega)) 8 rfl).mono ?_
  rintro e w' ⟨rfl, ht, hz, hh⟩
  exact ⟨rfl, (Turn.of_below hb).trans ht, by rw [hz]; simp, hh⟩
set_option maxHeartbeats 2000000 in
theorem works_any (w : World) : Calls Try.prog 9 #[] w fun e w' => e = .returned (.bool true) ∧ Below w.heap.size w w' := by
  have hcv := conv28
  have hsab := strOf_ab
  go_enter Try.func9, Try.ntmps9
  go_wp2_with (first
    | (go_at_call 6; refine (hnew_any 8 _ (by omega) (by omega)).mono ?_; rintro e w1 ⟨r, rfl, g, hb, hr, hg, hh⟩)
    | (go_at_call 12; refine (works_write hh _ _ rfl).mono ?_; rintro e w2 ⟨rfl, ht2, hz2, hh2⟩)
    | (go_at_call 16; refine (works_line1 hh2).mono ?_; rintro e w3 ⟨v3, rfl, hb3, ht3, hh3⟩; have hr2 := hh2.rlt; have hg2 := hh2.glt; clear hh2)
    | (go_at_call 16; refine (works_line2 hh3).mono ?_; rintro e w4 ⟨v4, rfl, ht4, hh4⟩; have hcs := conv_bytes (hb3.turn ht4 hr2 hg2); clear hh3 hb3)
    | (go_at_call 8; refine (num_err _ _).mono ?_; rintro e w' ⟨rfl, rfl⟩)
    | (go_at_call 19; refine (hlen_any hh4).mono ?_; rintro e w' ⟨rfl, rfl⟩)
    | (go_at_call 21; refine (hroom_any hh4).mono ?_; rintro e w' ⟨rfl, rfl⟩))
  go_ret
  exact ⟨rfl, hb.trans (((ht2.trans ht3).trans ht4).below hb.size hr hg)⟩

set_option maxHeartbeats 400000 in
theorem write_nilring (v : Value) (w : World) : Calls Try.prog 12 #[.pointer none, v] w fun e w' => e = .returned (.int .i64 0) ∧ w' = w := by
  go_enter Try.func12, Try.ntmps12
  go_wp2
  go_ret
  exact ⟨rfl, rfl⟩
set_option maxHeartbeats 400000 in
theorem index_nilring (w : World) : Calls Try.prog 20 #[.pointer none, .int .u8 97, .int .i64 0] w fun e w' => e = .returned (.int .i64 (-1)) ∧ w' = w := by
  go_enter Try.func20, Try.ntmps20
  go_wp2_with (go_at_call 19; refine (len_nil _).mono ?_; rintro e w' ⟨rfl, rfl⟩)
  go_loop [14] (fun i => i = .int .i64 0) (fun _ => 0)
  case atStart => rfl
  case round =>
    subst hrel
    go_wp2
    go_ret
    exact ⟨rfl, rfl⟩
set_option maxHeartbeats 400000 in
theorem line_nilring (w : World) : Calls Try.prog 16 #[.pointer none, .int .i64 5] w fun e w' => e = .returned (.tuple #[.slice none 0 0, .iface 54 (.int .i64 8)]) ∧ w' = w := by
  go_enter Try.func16, Try.ntmps16
  go_wp2_with (go_at_call 19; refine (len_nil _).mono ?_; rintro e w' ⟨rfl, rfl⟩)
  go_loop [13] (fun i => i = .int .i64 0) (fun _ => 0)
  case atStart => rfl
  case round =>
    subst hrel
    go_wp2
    go_ret2
    exact ⟨rfl, rfl⟩
set_option maxHeartbeats 400000 in
theorem at_nilring (w : World) : Calls Try.prog 17 #[.pointer none, .int .i64 0] w fun e w' => e = .returned (.tuple #[.int .u8 0, .bool false]) ∧ w' = w := by
  go_enter Try.func17, Try.ntmps17
  go_wp2_with (go_at_call 19; refine (len_nil _).mono ?_; rintro e w' ⟨rfl, rfl⟩)
  go_ret2
  exact ⟨rfl, rfl⟩
set_option maxHeartbeats 400000 in
theorem clone_nilring (w : World) : Calls Try.prog 13 #[.pointer none] w fun e w' => e = .returned (.pointer none) ∧ w' = w := by
  go_enter Try.func13, Try.ntmps13
  go_wp2
  go_ret
  exact ⟨rfl, rfl⟩
end Go.Proofs.Ytfiiiefhchbhlaa
