/- The hexadecimal text of a number. -/
import Derived.Test.YtnlmjlfoeodleaaGreatDoorKInv
import Derived.Lib.AppendIntMem
import Derived.Test.YtnlmjlfoeodleaaGreatDoorKCalls
import Derived.Laws.MakeOwn
namespace Go.Proofs.YtnlmjlfoeodleaaGreatDoor
open Go.RowKit

set_option maxHeartbeats 400000 in
theorem pow2_16 (w : World) : Calls Tryz.prog 169 #[.int .i64 16] w fun e w' => e = .returned (.bool true) ∧ w' = w := by
  go_enter Tryz.func169, Tryz.ntmps169
  go_wp2
  go_ret
  exact ⟨rfl, rfl⟩
set_option maxHeartbeats 400000 in
theorem tz64_16 (w : World) (hc : w.cell? ⟨4, 15, none⟩ = some (.int .u8 4)) : Calls Tryz.prog 176 #[.int .u64 16] w fun e w' => e = .returned (.int .i64 4) ∧ w' = w := by
  have e1 : bits BinOp.and IntKind.u64 16 (IntKind.u64.wrap (-16)) = 16 := by kernel_rfl
  have e2 : IntKind.u64.wrap (16 * 285870213051353865) = 4573923408821661840 := by kernel_rfl
  go_enter Tryz.func176, Tryz.ntmps176
  go_wp2
  go_ret
  exact ⟨rfl, rfl⟩
set_option maxHeartbeats 400000 in
theorem tz_16 (w : World) (hc : w.cell? ⟨4, 15, none⟩ = some (.int .u8 4)) : Calls Tryz.prog 170 #[.int .u64 16] w fun e w' => e = .returned (.int .i64 4) ∧ w' = w := by
  go_enter Tryz.func170, Tryz.ntmps170
  go_wp2_with (go_at_call 176; refine (tz64_16 _ hc).mono ?_; rintro e w' ⟨rfl, rfl⟩)
  go_ret
  exact ⟨rfl, rfl⟩

/-- One digit's letter. -/
def digC (d : Nat) : UInt8 := if d < 10 then UInt8.ofNat (48 + d) else UInt8.ofNat (87 + d)
/-- A number's digits in a base, the last ones behind. -/
def toldL (base : Nat) : Nat → Nat → List UInt8 → List UInt8
  | 0, _, l => l
  | f + 1, n, l => if n / base = 0 then digC (n % base) :: l else toldL base f (n / base) (digC (n % base) :: l)
def told (base n : Nat) : List UInt8 := toldL base 64 n []

def cellsOf65 (l : List UInt8) : Array Value := (List.replicate (65 - l.length) (Value.int .u8 0) ++ l.map fun b => Value.int .u8 (b.toNat : Int)).toArray
theorem cells65_nil : cellsOf65 [] = #[Value.int .u8 0, Value.int .u8 0, Value.int .u8 0, Value.int .u8 0, Value.int .u8 0, Value.int .u8 0, Value.int .u8 0, Value.int .u8 0, Value.int .u8 0, Value.int .u8 0, Value.int .u8 0, Value.int .u8 0, Value.int .u8 0, Value.int .u8 0, Value.int .u8 0, Value.int .u8 0, Value.int .u8 0, Value.int .u8 0, Value.int .u8 0, Value.int .u8 0, Value.int .u8 0, Value.int .u8 0, Value.int .u8 0, Value.int .u8 0, Value.int .u8 0, Value.int .u8 0, Value.int .u8 0, Value.int .u8 0, Value.int .u8 0, Value.int .u8 0, Value.int .u8 0, Value.int .u8 0, Value.int .u8 0, Value.int .u8 0, Value.int .u8 0, Value.int .u8 0, Value.int .u8 0, Value.int .u8 0, Value.int .u8 0, Value.int .u8 0, Value.int .u8 0, Value.int .u8 0, Value.int .u8 0, Value.int .u8 0, Value.int .u8 0, Value.int .u8 0, Value.int .u8 0, Value.int .u8 0, Value.int .u8 0, Value.int .u8 0, Value.int .u8 0, Value.int .u8 0, Value.int .u8 0, Value.int .u8 0, Value.int .u8 0, Value.int .u8 0, Value.int .u8 0, Value.int .u8 0, Value.int .u8 0, Value.int .u8 0, Value.int .u8 0, Value.int .u8 0, Value.int .u8 0, Value.int .u8 0, Value.int .u8 0] := by rfl
theorem cells65_size (l : List UInt8) (h : l.length ≤ 65) : (cellsOf65 l).size = 65 := by simp [cellsOf65]; omega
theorem cells65_zero (l : List UInt8) (i : Nat) (h : i + l.length < 65) : (cellsOf65 l)[i]? = some (.int .u8 0) := by
  simp only [cellsOf65, List.getElem?_toArray]
  rw [List.getElem?_append_left (by simp; omega), List.getElem?_replicate, if_pos (by omega)]
theorem cells65_cons (l : List UInt8) (d : UInt8) (i : Nat) (h : i + l.length + 1 = 65) : (cellsOf65 l).setIfInBounds i (.int .u8 (d.toNat : Int)) = cellsOf65 (d :: l) := by
  apply Array.toList_inj.1
  simp only [cellsOf65, Array.toList_setIfInBounds, List.length_cons, List.map_cons]
  have e : 65 - l.length = i + 1 := by omega
  have e2 : 65 - (l.length + 1) = i := by omega
  rw [e, e2, List.replicate_succ', List.append_assoc, List.set_append_right _ _ (by simp)]
  simp
theorem cells65_at (l : List UInt8) (i j : Nat) (h : i + l.length = 65) (hj : j < l.length) : (cellsOf65 l)[i + j]? = some (.int .u8 (l[j].toNat : Int)) := by
  simp only [cellsOf65, List.getElem?_toArray]
  rw [List.getElem?_append_right (by simp; omega)]
  simp only [List.length_replicate]
  rw [show i + j - (65 - l.length) = j by omega]
  simp [hj]

theorem dig36 (d : Nat) (h : d < 16) (h' : d < ({ data := #[48, 49, 50, 51, 52, 53, 54, 55, 56, 57, 97, 98, 99, 100, 101, 102, 103, 104, 105, 106, 107, 108, 109, 110, 111, 112, 113, 114, 115, 116, 117, 118, 119, 120, 121, 122] } : ByteArray).size) :
    ({ data := #[48, 49, 50, 51, 52, 53, 54, 55, 56, 57, 97, 98, 99, 100, 101, 102, 103, 104, 105, 106, 107, 108, 109, 110, 111, 112, 113, 114, 115, 116, 117, 118, 119, 120, 121, 122] } : ByteArray)[d] = digC d := by
  have all : ∀ d : Fin 16, ({ data := #[48, 49, 50, 51, 52, 53, 54, 55, 56, 57, 97, 98, 99, 100, 101, 102, 103, 104, 105, 106, 107, 108, 109, 110, 111, 112, 113, 114, 115, 116, 117, 118, 119, 120, 121, 122] } : ByteArray)[d.1]'(Nat.lt_of_lt_of_le d.2 (by decide)) = digC d.1 := by decide
  exact all ⟨d, h⟩

theorem mask15 (u : Nat) (h : u < 18446744073709551616) : bits BinOp.and IntKind.u64 (u : Int) 15 = ((u % 16 : Nat) : Int) := by
  have h := bits_and_u64_nat u 15 h (by omega)
  rw [show (15 : Nat) = 2 ^ 4 - 1 from rfl, Nat.and_two_pow_sub_one_eq_mod] at h
  exact h

/-- What the digits so far, and the number that is left, make. -/
def HexInv (n x : Nat) (l : List UInt8) : Prop := x * 16 ^ l.length ≤ n ∧ ∃ f, f + 1 + l.length = 64 ∧ toldL 16 (f + 1) x l = told 16 n
theorem HexInv.start (n : Nat) : HexInv n n [] := ⟨by simp, 63, rfl, rfl⟩
theorem HexInv.len {n x : Nat} {l : List UInt8} (h : HexInv n x l) (hn : n < 9223372036854775808) (hx : 1 ≤ x) : l.length < 16 := by
  rcases Nat.lt_or_ge l.length 16 with h' | h'
  · exact h'
  · have h1 : 16 ^ 16 ≤ 16 ^ l.length := Nat.pow_le_pow_right (by omega) h'
    have h2 : 1 * 16 ^ l.length ≤ x * 16 ^ l.length := Nat.mul_le_mul_right _ hx
    have h3 : (16 : Nat) ^ 16 = 18446744073709551616 := by decide
    have := h.1
    omega
theorem HexInv.step {n x : Nat} {l : List UInt8} (h : HexInv n x l) (hn : n < 9223372036854775808) (hx : 16 ≤ x) : HexInv n (x / 16) (digC (x % 16) :: l) := by
  have hl := h.len hn (by omega)
  obtain ⟨h1, f, hf, ht⟩ := h
  refine ⟨?_, f - 1, by simp; omega, ?_⟩
  · simp only [List.length_cons, Nat.pow_succ]
    have : x / 16 * 16 ≤ x := Nat.div_mul_le_self x 16
    calc x / 16 * (16 ^ l.length * 16) = x / 16 * 16 * 16 ^ l.length := by rw [Nat.mul_comm (16 ^ l.length) 16, Nat.mul_assoc]
      _ ≤ x * 16 ^ l.length := Nat.mul_le_mul_right _ this
      _ ≤ n := h1
  · rw [toldL, if_neg (by omega)] at ht
    rw [← ht, show f - 1 + 1 = f by omega]
theorem HexInv.last {n x : Nat} {l : List UInt8} (h : HexInv n x l) (hx : ¬ 16 ≤ x) : told 16 n = digC x :: l := by
  obtain ⟨_, f, _, ht⟩ := h
  rw [← ht, toldL, if_pos (by omega), Nat.mod_eq_of_lt (by omega)]
theorem HexInv.len0 {n x : Nat} {l : List UInt8} (h : HexInv n x l) : l.length < 64 := by
  obtain ⟨_, f, hf, _⟩ := h; omega

set_option maxRecDepth 20000 in
set_option maxHeartbeats 1000000 in
theorem formatBits_16 (n : Nat) (w : World) (hn : n < 9223372036854775808) (hc : w.cell? ⟨4, 15, none⟩ = some (.int .u8 4)) :
    Calls Tryz.prog 158 #[.slice none 0 0, .int .u64 n, .int .i64 16, .bool false, .bool false] w fun e w' => e = .returned (.tuple #[.slice none 0 0, .string ⟨(told 16 n).toArray⟩]) ∧ Below w.heap.size w w' := by
  have hlt : 4 < w.heap.size := by
    rcases Nat.lt_or_ge 4 w.heap.size with h | h
    · exact h
    · simp [World.cell?, Array.getElem?_eq_none h] at hc
  have hcA : (w.alloc (.cells (cellsOf65 []) 195)).cell? ⟨4, 15, none⟩ = some (.int .u8 4) := by
    rw [World.cell?_alloc_lt _ _ ⟨4, 15, none⟩ hlt]; exact hc
  rw [cells65_nil] at hcA
  go_enter Tryz.func158, Tryz.ntmps158
  go_wp2_with (first | (go_at_call 169; refine (pow2_16 _).mono ?_; rintro e w' ⟨rfl, rfl⟩) | (go_at_call 170; refine (tz_16 _ hcA).mono ?_; rintro e w' ⟨rfl, rfl⟩))
  clear hcA hc
  go_loopw [1, 13] (fun u i W => ∃ (x k : Nat) (l : List UInt8), u = .int .u64 x ∧ i = .int .i64 k ∧ k + l.length = 65 ∧ W = w.alloc (.cells (cellsOf65 l) 195) ∧ x < 9223372036854775808 ∧ Hid (HexInv n x l)) (fun u _ _ => (intOf u).toNat)
  case atStart => exact ⟨n, 65, [], rfl, rfl, rfl, by rw [cells65_nil], hn, HexInv.start n⟩
  case round =>
    obtain ⟨x, k, l, rfl, rfl, hk, rfl, hx, hI⟩ := hrel
    have hm := mask15 x (by omega)
    have h64 := hI.out.len0
    have hcell : (w.alloc (.cells (cellsOf65 l) 195)).cell? ⟨w.heap.size, k - 1, none⟩ = some (.int .u8 0) := by
      rw [World.cell?_alloc_new]; exact cells65_zero l (k - 1) (by omega)
    by_cases hge : 16 ≤ x
    · have hN : Hid (HexInv n (x / 16) (digC (x % 16) :: l)) := hI.out.step hn hge
      go_wp2
      go_roundw
      case rel => exact ⟨x / 16, k - 1, digC (x % 16) :: l, by go_num, by congr 1; omega, by simp; omega, by rw [dig36 _ (by omega), cells65_cons l _ (k - 1) (by omega)], by omega, hN⟩
      case measure => simp [intOf]; omega
    · have hL : Hid (told 16 n = digC x :: l) := hI.out.last hge
      clear hm hn hlt
      have hsl : ∀ W, (Instr.sliceAt 195 (.pointer (some ⟨w.heap.size, 0, none⟩)) (some (.int .i64 ((k : Int) - 1))) none none).run Tryz.prog W = .ok (.slice (some ⟨w.heap.size, k - 1, none⟩) (l.length + 1) (l.length + 1)) W := fun W => by
        rw [run_sliceAt_array_l W 195 ⟨w.heap.size, 0, none⟩ (by simp [Program.arrayLen, Program.elem, Tryz.underlying195]) .i64 ((k : Int) - 1) (by omega) (by simp [Program.arrayLen, Tryz.underlying195]; omega)]
        have e : Tryz.prog.arrayLen 195 = 65 := by simp [Program.arrayLen, Tryz.underlying195]
        have e2 : Tryz.prog.elem 195 = 5 := by simp [Program.elem, Tryz.underlying195]
        have e3 : ((k : Int) - 1).toNat = k - 1 := by omega
        rw [e, e2, e3, Tryz.sizeOf5]
        simp only [Result.andThen, slicedAt, Lib.add_plain, Nat.mul_one, Nat.zero_add]
        rw [if_neg (by omega), show 65 - (k - 1) = l.length + 1 by omega]
      have hcv : (convert 32 9 (.slice (some ⟨w.heap.size, k - 1, none⟩) (l.length + 1) (l.length + 1))).run Tryz.prog (w.alloc (.cells (cellsOf65 (digC x :: l)) 195)) = .ok (.string ⟨(digC x :: l).toArray⟩) (w.alloc (.cells (cellsOf65 (digC x :: l)) 195)) :=
        run_convert_bytes_back _ 32 9 5 _ _ _ Tryz.underlying32 Tryz.underlying5 Tryz.underlying9 (fun j hj => by
          rw [Lib.add_plain, World.cell?_alloc_new]; exact cells65_at (digC x :: l) (k - 1) j (by simp; omega) hj)
      have hA : (cellsOf65 l).setIfInBounds (k - 1) (Value.int IntKind.u8 (({ data := #[48, 49, 50, 51, 52, 53, 54, 55, 56, 57, 97, 98, 99, 100, 101, 102, 103, 104, 105, 106, 107, 108, 109, 110, 111, 112, 113, 114, 115, 116, 117, 118, 119, 120, 121, 122] } : ByteArray)[x]'(Nat.lt_of_lt_of_le (Nat.lt_of_not_le hge) (by decide))).toNat) = cellsOf65 (digC x :: l) := by rw [dig36 _ (by omega), cells65_cons l _ (k - 1) (by omega)]
      go_wp2
      go_ret2
      rw [hL.out]
      exact ⟨rfl, (Below.refl _ _).alloc (Nat.le_refl _) _⟩
set_option maxHeartbeats 400000 in
theorem iformat16_any (n : Nat) (w : World) (hn : n < 9223372036854775808) (hc : w.cell? ⟨4, 15, none⟩ = some (.int .u8 4)) :
    Calls Tryz.prog 138 #[.int .i64 n, .int .i64 16] w fun e w' => e = .returned (.string ⟨(told 16 n).toArray⟩) ∧ Below w.heap.size w w' := by
  have hw : IntKind.u64.wrap (n : Int) = n := by rw [IntKind.wrap_u64]; omega
  go_enter Tryz.func138, Tryz.ntmps138
  go_wp2_with (go_at_call 158; refine (formatBits_16 n _ hn hc).mono ?_; rintro e w' ⟨rfl, hb⟩)
  go_ret
  exact ⟨rfl, by assumption⟩
end Go.Proofs.YtnlmjlfoeodleaaGreatDoor
/- A chunk written: Encode. -/
namespace Go.Proofs.YtnlmjlfoeodleaaGreatDoor
open Go.RowKit

theorem wpList_append_own_str {P : Program} {w : World} {ops : Array Oper} {rest : List Oper} {o : Oper} {a : Act} {Q : Exit → Act → World → Prop} (hgd : o.guard = none) (sl x : Operand) (t u : TypeId)
    (ho : o.op = .call { callee := .builtin .append, args := #[sl, x], argTypes := #[t, u] })
    (base : Nat) (e : TypeId) (i : TypeInfo) (ht : P.underlying t = some (.slice e)) (hu : P.underlying u = some .string) (hi : P.info? e = some i) (hz : i.zero = some (.int .u8 0))
    (hsize : i.size = 1) (hby : i.bytes = 1)
    (v : Value) (n : Nat) (xs : List Value) (hs : a.eval sl = v) (hown : w.ownsRow base e 1 v n xs) (s : ByteArray) (hx : a.eval x = .string s)
    (h63 : n + s.size ≤ maxLen) (hbytes : n + s.size ≤ 140737488355328) (hbase : base ≤ w.heap.size)
    (h : ∀ v' w', w'.ownsRow base e 1 v' (n + s.size) (xs ++ Lib.strCells s) → w.grownBy w' v.ownBlock → wpList P ops Q rest (a.put o.dst v') w') : wpList P ops Q (o :: rest) a w := by
  refine wpList_plain hgd fun K hK => ?_
  exact wp_append_own_string sl x t u ho base e i ht hu hi hz hsize hby v n xs hs hown s hx h63 hbytes hbase (fun v' w' h1 h2 => hK _ _ (h v' w' h1 h2))
theorem Own.app {w' : World} {base n : Nat} {v' : Value} {acc t : B} (hn : acc.length = n) (h : w'.ownsRow base 5 1 v' (n + (str t).size) (Lib.byteCells acc ++ Lib.strCells (str t))) : Own w' base v' (acc ++ t) := by
  unfold Own
  rw [cells_app, List.length_append, hn, ← strCells_str, ← str_size]
  exact h
theorem mk_row (w : World) (n : Nat) (hn : n ≤ 140737488355328) : ∃ w', (Instr.makeSlice 32 (.int .i64 0) (.int .i64 (n : Int))).run Tryz.prog w = .ok (.slice (some ⟨w.heap.size, 0, none⟩) 0 n) w' ∧ Own w' w.heap.size (.slice (some ⟨w.heap.size, 0, none⟩) 0 n) [] ∧ Below w.heap.size w w' := by
  obtain ⟨i0, hi0, hz0, hz1, hz2⟩ := info_parts infoB
  obtain ⟨w', h1, h2, h3⟩ := run_make_own (P := Tryz.prog) w w.heap.size 32 5 i0 _ 1 Tryz.underlying32 hi0 hz0 hz1 .i64 .i64 n (by rw [hz2]; omega) (by unfold maxLen; omega) (Nat.le_refl _)
  exact ⟨w', h1, h2, below_grown h3⟩
theorem own_base {w : World} {b b' : Nat} {v : Value} {acc : B} (h : Own w b v acc) (hb : b' ≤ b) : Own w b' v acc := by
  refine ⟨h.1, ?_⟩
  rcases h.2 with h1 | ⟨g, cap, cur, h1, h2, h3⟩
  · exact .inl h1
  · exact .inr ⟨g, cap, cur, h1, Nat.le_trans hb h2, h3⟩
/-- What the walks ask of the library's table. -/
structure EnvK (w : World) : Prop where
  bit : w.cell? ⟨4, 15, none⟩ = some (.int .u8 4)
theorem EnvK.next {w w' : World} (h : EnvK w) (hb : Below w.heap.size w w') : EnvK w' := ⟨cell_keep hb h.bit⟩
def encK (l : B) : B := if l = [] then [] else told 16 l.length ++ [13, 10] ++ l ++ [13, 10]
theorem toldL_len16 : ∀ (f n : Nat) (l : B), n < 16 ^ f → (toldL 16 f n l).length ≤ f + l.length
  | 0, n, l, _ => by simp [toldL]
  | f + 1, n, l, h => by
    rw [toldL]
    split
    · simp; omega
    · have h1 : n / 16 < 16 ^ f := by
        rw [Nat.div_lt_iff_lt_mul (by omega)]
        rw [Nat.pow_succ] at h
        exact h
      have := toldL_len16 f (n / 16) (digC (n % 16) :: l) h1
      rw [List.length_cons] at this
      omega
theorem told_len16 (n : Nat) (h : n < 9223372036854775808) : (told 16 n).length ≤ 64 := by
  have := toldL_len16 64 n [] (Nat.lt_trans h (by decide))
  simpa [told] using this
end Go.Proofs.YtnlmjlfoeodleaaGreatDoor
