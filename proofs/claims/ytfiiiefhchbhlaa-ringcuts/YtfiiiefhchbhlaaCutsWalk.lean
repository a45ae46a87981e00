/- The law RingCuts returns true for every text of bytes, every row of cuts and every number. -/
import Derived.Test.YtfiiiefhchbhlaaArgs
import Derived.Test.YtfiiiefhchbhlaaTwo
import Derived.Deep.RegionWith
import Derived.Deep.CutBlock
import Derived.Deep.CutRange
namespace Go.Proofs.Ytfiiiefhchbhlaa
open Go.RowKit

/-- A slice of whole numbers that lies in memory. -/
def CutsAt (w : World) (pc : Option Addr) (M : Nat) : Prop :=
  ∀ k, k < M → ∃ b o x, pc = some ⟨b, o, none⟩ ∧ b < w.heap.size ∧ w.cell? ⟨b, o + k, none⟩ = some (.int .i64 x)
theorem CutsAt.below {w w' : World} {pc : Option Addr} {M : Nat} (h : CutsAt w pc M) (hb : Below w.heap.size w w') : CutsAt w' pc M := by
  intro k hk
  obtain ⟨b, o, x, h1, h2, h3⟩ := h k hk
  exact ⟨b, o, x, h1, Nat.lt_of_lt_of_le h2 hb.size, (hb.cell (p := ⟨b, o + k, none⟩) h2).trans h3⟩
set_option maxRecDepth 20000 in
set_option maxHeartbeats 4000000 in
theorem cuts_long (pv pc : Option Addr) (N c M cc : Nat) (most : Int) (w : World) (hlen : (4096 : Int) < N) :
    Calls Try.prog 5 #[.slice pv N c, .slice pc M cc, .int .i64 most] w fun e w' => e = .returned (.bool true) ∧ Below w.heap.size w w' := by
  go_enter Try.func5, Try.ntmps5
  go_wp2_with (first
    | (go_at_call 9; refine (works_any _).mono ?_; rintro e w2 ⟨rfl, hb2⟩))
  go_ret
  exact ⟨rfl, hb2⟩
theorem ArgAt.addr {w : World} {pv : Option Addr} {N c : Nat} {bs : List Int} (h : ArgAt w (.slice pv N c) bs) (hN : bs.length = N) (hp : 0 < N) : ∃ b o, pv = some ⟨b, o, none⟩ ∧ b < w.heap.size ∧ N ≤ c ∧ c ≤ maxLen ∧ CellsAt w b o bs := by
  subst hN
  rcases h with ⟨_, rfl⟩ | ⟨b, o, cap, h1, h2, h3, h4, h5⟩
  · simp at hp
  · simp only [Value.slice.injEq, true_and] at h2
    obtain ⟨rfl, rfl⟩ := h2
    exact ⟨b, o, rfl, h1, h3, h4, h5⟩
/-- A piece of what came in is written to the twin. -/
theorem piece_write {w W : World} {r g r2 g2 N b o cp f m : Nat} {bs p : List Int} (h : Two w W r g r2 g2 p (bs.take f)) (hN : bs.length = N) (hN2 : N ≤ 4096) (hb : b < w.heap.size) (hc : CellsAt w b o bs) (hf : f + m ≤ N) (hcp : m ≤ cp) (hcp2 : cp ≤ maxLen) :
    Calls Try.prog 12 #[.pointer (some ⟨r2, 0, none⟩), .slice (some ⟨b, o + f, none⟩) m cp] W fun e w' => e = .returned (.int .i64 m) ∧ Two w w' r g r2 g2 p (bs.take (f + m)) := by
  have hx : ((bs.drop f).take m).length = m := by simp; omega
  have hbel := h.below
  have hs : SrcAt g2 W (.slice (some ⟨b, o + f, none⟩) m cp) ((bs.drop f).take m) := by
    refine .inr ⟨b, o + f, cp, by rw [hx], by rw [hx]; exact hcp, hcp2, ?_, by have := h.lo; omega⟩
    exact ((hc.of_heap (hbel.block b hb)).drop f).take m
  refine (hwrite_any h.twin hs m (by rw [hx]; simp; omega)).mono ?_
  rintro e w' ⟨rfl, ht, hz, hh⟩
  refine ⟨rfl, h.turn2 ht ?_⟩
  have e1 : bs.take f ++ ((bs.drop f).take m).take m = bs.take (f + m) := by
    rw [List.take_take, Nat.min_self, ← List.take_add]
  rwa [e1] at hh
/-- Nothing is written to the twin. -/
theorem empty_write {w W : World} {r g r2 g2 cp : Nat} {pa : Option Addr} {p q : List Int} (h : Two w W r g r2 g2 p q) (hp : pa = none → cp = 0) (hcp2 : cp ≤ maxLen) (hpl : ∀ a, pa = some a → ∃ b o, a = ⟨b, o, none⟩ ∧ b < w.heap.size) :
    Calls Try.prog 12 #[.pointer (some ⟨r2, 0, none⟩), .slice pa 0 cp] W fun e w' => e = .returned (.int .i64 (0 : Nat)) ∧ Two w w' r g r2 g2 p q := by
  have hs : SrcAt g2 W (.slice pa 0 cp) [] := by
    cases pa with
    | none => rw [hp rfl]; exact .inl ⟨rfl, rfl⟩
    | some a =>
      obtain ⟨b, o, rfl, hb⟩ := hpl a rfl
      exact .inr ⟨b, o, cp, rfl, Nat.zero_le _, hcp2, fun j v hj => by simp at hj, by have := h.lo; omega⟩
  refine (hwrite_any h.twin hs 0 (by simp)).mono ?_
  rintro e w' ⟨rfl, ht, hz, hh⟩
  exact ⟨rfl, h.turn2 ht (by simpa using hh)⟩
theorem rem_bounds (x : Int) : -50 < x.tmod 50 ∧ x.tmod 50 < 50 := by
  have h1 := Int.tmod_lt_of_pos x (show (0 : Int) < 50 by omega)
  have h2 := Int.tmod_lt_of_pos (-x) (show (0 : Int) < 50 by omega)
  rw [Int.neg_tmod] at h2
  omega
theorem piece_int {w W : World} {r g r2 g2 N b o cp f m : Nat} {bs p : List Int} (d : Int) (hd : (m : Int) = d) (h : Two w W r g r2 g2 p (bs.take f)) (hN : bs.length = N) (hN2 : N ≤ 4096) (hb : b < w.heap.size) (hc : CellsAt w b o bs) (hf : f + m ≤ N) (hcp : m ≤ cp) (hcp2 : cp ≤ maxLen) :
    Calls Try.prog 12 #[.pointer (some ⟨r2, 0, none⟩), .slice (some ⟨b, o + f, none⟩) m cp] W fun e w' => e = .returned (.int .i64 d) ∧ ∃ m : Nat, Hid ((m : Int) = d ∧ f + m ≤ N ∧ Two w w' r g r2 g2 p (bs.take (f + m))) := by
  subst hd
  refine (piece_write h hN hN2 hb hc hf hcp hcp2).mono ?_
  rintro e w' ⟨rfl, ht⟩
  exact ⟨rfl, m, rfl, hf, ht⟩
theorem len_two {w W : World} {r g r2 g2 : Nat} {p q : List Int} (h : Two w W r g r2 g2 p q) :
    Calls Try.prog 19 #[.pointer (some ⟨r2, 0, none⟩)] W fun e w' => ∃ l : Nat, e = .returned (.int .i64 l) ∧ (l : Int) ≤ 4096 ∧ w' = W := by
  refine (hlen_any h.twin).mono ?_
  rintro e w' ⟨rfl, rfl⟩
  exact ⟨_, rfl, by have := h.twin.le; omega, rfl⟩
theorem tail_write {w W : World} {r g r2 g2 N b o f q m cp : Nat} {bs p : List Int} (h : Two w W r g r2 g2 p (bs.take f)) (hN : bs.length = N) (hN2 : N ≤ 4096) (hb : b < w.heap.size) (hc : CellsAt w b o bs) (hf : f + m = N) (hq : 0 < m → q = o + f) (hcp : m ≤ cp) (hcp2 : cp ≤ maxLen) :
    Calls Try.prog 12 #[.pointer (some ⟨r2, 0, none⟩), .slice (some ⟨b, q, none⟩) m cp] W fun e w' => ∃ d : Nat, e = .returned (.int .i64 d) ∧ Two w w' r g r2 g2 p bs := by
  by_cases hm : 0 < m
  · rw [hq hm]
    refine (piece_write h hN hN2 hb hc (by omega) hcp hcp2).mono ?_
    rintro e w' ⟨rfl, ht⟩
    exact ⟨m, rfl, by rwa [List.take_of_length_le (by omega)] at ht⟩
  · obtain rfl : m = 0 := by omega
    refine (empty_write h (fun h => by simp at h) hcp2 (fun a ha => by simp only [Option.some.injEq] at ha; exact ⟨b, q, ha.symm, hb⟩)).mono ?_
    rintro e w' ⟨rfl, ht⟩
    exact ⟨0, rfl, by rwa [List.take_of_length_le (by omega)] at ht⟩
theorem tail_none {w W : World} {r g r2 g2 f : Nat} {bs p : List Int} (h : Two w W r g r2 g2 p (bs.take f)) (hN : bs.length = 0) :
    Calls Try.prog 12 #[.pointer (some ⟨r2, 0, none⟩), .slice none 0 0] W fun e w' => ∃ d : Nat, e = .returned (.int .i64 d) ∧ Two w w' r g r2 g2 p bs := by
  refine (empty_write h (fun _ => rfl) (Nat.zero_le _) (fun a ha => by simp at ha)).mono ?_
  rintro e w' ⟨rfl, ht⟩
  exact ⟨0, rfl, by rwa [List.take_of_length_le (by omega)] at ht⟩
theorem ArgAt.cases {w : World} {pv : Option Addr} {N c : Nat} {bs : List Int} (h : ArgAt w (.slice pv N c) bs) (hN : bs.length = N) : (pv = none ∧ N = 0 ∧ c = 0) ∨ ∃ b o, pv = some ⟨b, o, none⟩ ∧ b < w.heap.size ∧ N ≤ c ∧ c ≤ maxLen ∧ CellsAt w b o bs := by
  subst hN
  rcases h with ⟨h1, rfl⟩ | ⟨b, o, cap, h1, h2, h3, h4, h5⟩
  · simp only [Value.slice.injEq] at h1; exact .inl ⟨h1.1, rfl, h1.2.2⟩
  · simp only [Value.slice.injEq, true_and] at h2
    obtain ⟨rfl, rfl⟩ := h2
    exact .inr ⟨b, o, rfl, h1, h3, h4, h5⟩
theorem BytesAt.cell {B : Nat} {w : World} {pa : Option Addr} {n : Nat} {xs : List Int} (h : BytesAt B w (.slice pa n n) xs) (j : Nat) (hj : j < n) : ∃ b, pa = some ⟨b, 0, none⟩ ∧ j < xs.length ∧ w.cell? ⟨b, j, none⟩ = some (.int .u8 (xs.getD j 0)) := by
  rcases h with ⟨h1, _⟩ | ⟨b, h1, h2, h3⟩
  · simp only [Value.slice.injEq] at h1; omega
  · simp only [Value.slice.injEq] at h2
    have hl : j < xs.length := by omega
    exact ⟨b, h2.1, hl, by simp [World.cell?, h3, List.getD, List.getElem?_eq_getElem hl]⟩
theorem BytesAt.slice {B : Nat} {w : World} {v : Value} {xs : List Int} (h : BytesAt B w v xs) : ∃ pa n, v = .slice pa n n ∧ n ≤ xs.length := by
  rcases h with ⟨rfl, _⟩ | ⟨b, h1, rfl, h3⟩
  · exact ⟨none, 0, rfl, Nat.zero_le _⟩
  · exact ⟨_, _, rfl, Nat.le_refl _⟩
theorem line_first {w W : World} {r g r2 g2 : Nat} {q q' : List Int} {most : Int} {E : Value} (h : Two w W r g r2 g2 q q') (hm : most ≤ 9223372036854775807) (hE : errV (lineC q most) = E) :
    Calls Try.prog 16 #[.pointer (some ⟨r, 0, none⟩), .int .i64 most] W fun e w' => ∃ v, e = .returned (.tuple #[v, E]) ∧ Hid ((BytesAt W.heap.size w' v (lineL q most) ∧ Two w w' r g r2 g2 (lineR q most) q') ∧ W.heap.size ≤ w'.heap.size) := by
  refine (hline_any h.ring most hm).mono ?_
  rintro e w' ⟨v, rfl, hl⟩
  exact ⟨v, by rw [hE], ⟨hl.bytes, h.turn1 hl.turn hl.ring⟩, hl.turn.size⟩
/-- What both Lines hand back. -/
structure Lines2 (w W0 w' : World) (r g r2 g2 : Nat) (q : List Int) (most : Int) (v1 v2 : Value) : Prop where
  one : BytesAt W0.heap.size w' v1 (lineL q most)
  two : BytesAt W0.heap.size w' v2 (lineL q most)
  rings : Two w w' r g r2 g2 (lineR q most) (lineR q most)
theorem line_second {w W0 W : World} {r g r2 g2 : Nat} {q p : List Int} {most : Int} {E v1 : Value} (h0 : Two w W0 r g r2 g2 p q) (h : BytesAt W0.heap.size W v1 (lineL q most) ∧ Two w W r g r2 g2 (lineR q most) q) (hz : W0.heap.size ≤ W.heap.size) (hm : most ≤ 9223372036854775807) (hE : errV (lineC q most) = E) :
    Calls Try.prog 16 #[.pointer (some ⟨r2, 0, none⟩), .int .i64 most] W fun e w' => ∃ v2, e = .returned (.tuple #[v2, E]) ∧ Lines2 w W0 w' r g r2 g2 q most v1 v2 := by
  refine (hline_any h.2.twin most hm).mono ?_
  rintro e w' ⟨v, rfl, hl⟩
  refine ⟨v, by rw [hE], h.1.turn hl.turn h0.twin.rlt h0.twin.glt, ?_, h.2.turn2 hl.turn hl.ring⟩
  rcases hl.bytes with hb | ⟨b, h1, h2, h3⟩
  · exact .inl hb
  · exact .inr ⟨b, by omega, h2, h3⟩
theorem held_all {q : List Int} (h : q.length ≤ 4096) : held 5000 q.length = q.length := by unfold held; (repeat' split) <;> omega
theorem read5_first {w W W' : World} {r g r2 g2 : Nat} {q p : List Int} {T : ByteArray} (h : Two w W r g r2 g2 q p) (hs : Still W W') (hT : strOfNums q = T) :
    Calls Try.prog 18 #[.pointer (some ⟨r, 0, none⟩), .int .i64 5000] W' fun e w' => ∃ v, e = .returned v ∧ Hid (BytesAt W.heap.size w' v q ∧ Two w w' r g r2 g2 [] p) ∧ (convert 28 9 v).run Try.prog w' = .ok (.string T) w' := by
  have h1 := h.still hs
  refine (hread_any h1.ring 5000).mono ?_
  rintro e w' ⟨v, rfl, hv, ht, hh⟩
  rw [held_all h.ring.le] at hv hh
  rw [List.take_of_length_le (by omega)] at hv
  rw [List.drop_eq_nil_of_le (by omega)] at hh
  have hz : W'.heap.size = W.heap.size := by rw [hs.heap]
  rw [hz] at hv
  exact ⟨v, rfl, ⟨hv, h1.turn1 ht hh⟩, by rw [← hT]; exact conv_bytes hv⟩
theorem read5_second {w W W' : World} {r g r2 g2 B : Nat} {q p : List Int} {T : ByteArray} {v1 : Value} (h : BytesAt B W v1 q ∧ Two w W r g r2 g2 p q) (hs : Still W W') (hT : strOfNums q = T) (hr : r2 < B) (hg : g2 < B) :
    Calls Try.prog 18 #[.pointer (some ⟨r2, 0, none⟩), .int .i64 5000] W' fun e w' => ∃ v, e = .returned v ∧ Below w.heap.size w w' ∧ (convert 28 9 v).run Try.prog w' = .ok (.string T) w' ∧ (convert 28 9 v1).run Try.prog w' = .ok (.string T) w' := by
  have h1 := h.2.still hs
  refine (hread_any h1.twin 5000).mono ?_
  rintro e w' ⟨v, rfl, hv, ht, hh⟩
  rw [held_all h.2.twin.le] at hv
  rw [List.take_of_length_le (by omega)] at hv
  refine ⟨v, rfl, (h1.turn2 ht hh).below, by rw [← hT]; exact conv_bytes hv, by rw [← hT]; exact conv_bytes ((h.1.of_heap fun k _ _ => by rw [hs.heap]).turn ht hr hg)⟩
set_option maxRecDepth 20000 in
set_option maxHeartbeats 4000000 in
theorem cuts_short (pv pc : Option Addr) (N c M cc : Nat) (bs : List Int) (most : Int) (w : World) (hv : ArgAt w (.slice pv N c) bs) (hN : bs.length = N) (hlen : N ≤ 4096) (hcuts : CutsAt w pc M) (hM : (M : Int) ≤ 9223372036854775807) (hmost : most ≤ 9223372036854775807) :
    Calls Try.prog 5 #[.slice pv N c, .slice pc M cc, .int .i64 most] w fun e w' => e = .returned (.bool true) ∧ Below w.heap.size w w' := by
  have hlen' : (N : Int) ≤ 4096 := by omega
  have HV := hid hv
  have HN := hid hN
  have HC := hid hcuts
  clear hv hN hcuts
  go_enter Try.func5, Try.ntmps5
  go_upto_block 0 with (first
    | (go_at_call 6; refine (new_second HS.out).mono ?_; rintro e w2 ⟨r2, rfl, g2, h2⟩; have HT := hid h2; clear h2 HS)
    | (go_at_call 6; refine (new_first _).mono ?_; rintro e w1 ⟨r, rfl, g, h1⟩; have HS := hid h1; clear h1)
    | (go_at_call 12; refine (write_first HT.out HV.out HN.out hlen).mono ?_; rintro e w3 ⟨rfl, h3⟩; have HT3 := hid h3; clear h3 HT))
  go_cut [11] from 12 to 96 (fun fv W => ∃ f : Nat, fv = .int .i64 f ∧ f ≤ N ∧ Two w W r g r2 g2 bs (bs.take f))
  case first =>
    go_wp2_with fail
    go_loopw [11, 12] (fun fv i W => ∃ k f : Nat, i = .int .i64 k ∧ fv = .int .i64 f ∧ f ≤ N ∧ k ≤ 200 ∧ Two w W r g r2 g2 bs (bs.take f)) (fun _ i _ => 200 - (intOf i).toNat)
    case atStart => exact ⟨0, 0, rfl, rfl, Nat.zero_le _, Nat.zero_le _, by simpa using HT3.out⟩
    case round =>
      obtain ⟨k, f, rfl, rfl, hf, hk, htw⟩ := hrel
      rename World => W
      have HW := hid htw
      clear htw
      by_cases hgo : k < M ∧ k < 200 ∧ f < N
      · obtain ⟨hkM, hk2, hfN⟩ := hgo
        have hkM' : (k : Int) < M := by omega
        have hk2' : (k : Int) < 200 := by omega
        have hfN' : (f : Int) < N := by omega
        obtain ⟨b, o, rfl, hb, hNc, hcm, hcl⟩ := HV.out.addr HN.out (by omega)
        obtain ⟨b2, o2, x, rfl, hb2, hx⟩ := HC.out.below HW.out.below k hkM
        obtain ⟨x1, x2⟩ := rem_bounds x
        have HCL := hid hcl
        unfold maxLen at hcm
        clear hcl
        go_wp2_with (first
          | (go_at_call 12; refine (piece_int (x.tmod 50 % 50 + 1) (by omega) HW.out HN.out hlen hb HCL.out (by omega) (by omega) (by unfold maxLen; omega)).mono ?_; rintro e W2 ⟨rfl, m, h2⟩; clear HW)
          | (go_at_call 12; refine (piece_int ((N : Int) - f) (by omega) HW.out HN.out hlen hb HCL.out (by omega) (by omega) (by unfold maxLen; omega)).mono ?_; rintro e W2 ⟨rfl, m, h2⟩; clear HW)
          | (go_at_call 19; refine (len_two h2.out.2.2).mono ?_; rintro e W3 ⟨l, rfl, hl, rfl⟩))
        all_goals
          go_roundw
          case rel => exact ⟨k + 1, f + m, by go_num, by have := h2.out.1; show Value.int .i64 _ = Value.int .i64 _; congr 1; omega, h2.out.2.1, by omega, h2.out.2.2⟩
          case measure => simp [intOf]; omega
      · have hM' := hM
        rcases (by omega : M ≤ k ∨ (k < M ∧ 200 ≤ k) ∨ (k < M ∧ k < 200 ∧ N ≤ f)) with hx | ⟨hx, hy⟩ | ⟨hx, hy, hz⟩
        · have h1 : ¬ (k : Int) < M := by omega
          go_wp2_with (fail)
          go_meet
          case rel => exact ⟨f, rfl, hf, HW.out⟩
        · have h1 : (k : Int) < M := by omega
          have h2 : ¬ (k : Int) < 200 := by omega
          go_wp2_with (fail)
          go_meet
          case rel => exact ⟨f, rfl, hf, HW.out⟩
        · have h1 : (k : Int) < M := by omega
          have h2 : (k : Int) < 200 := by omega
          have h3 : ¬ (f : Int) < N := by omega
          go_wp2_with (fail)
          go_meet
          case rel => exact ⟨f, rfl, hf, HW.out⟩
  case rest =>
    obtain ⟨f, rfl, hf, htw⟩ := hcut
    have HW := hid htw
    clear htw HT3
    go_upto_region 17 with fail
    go_cut [] from 97 to 101 (fun W => Two w W r g r2 g2 bs bs)
    case first =>
      rcases HV.out.cases HN.out with ⟨rfl, h1, h2⟩ | ⟨b, o, rfl, hb, hNc, hcm, hcl⟩
      · subst h1
        subst h2
        obtain rfl : f = 0 := by omega
        go_wp2_with (go_at_call 12; refine (tail_none HW.out HN.out).mono ?_; rintro e W2 ⟨d, rfl, h2⟩)
        go_meet
        case rel => exact h2
      · unfold maxLen at hcm
        have HCL := hid hcl
        have hf1 : (f : Int) ≤ N := by omega
        have hf2 : (N : Int) ≤ c := by omega
        clear hcl
        by_cases hcf : c = f
        · subst hcf
          obtain rfl : N = c := by omega
          go_wp2_with (go_at_call 12; refine (tail_write (m := 0) HW.out HN.out hlen hb HCL.out (by omega) (by omega) (by omega) (by unfold maxLen; omega)).mono ?_; rintro e W2 ⟨d, rfl, h2⟩)
          all_goals
            go_meet
            case rel => exact h2
        · go_wp2_with (go_at_call 12; refine (tail_write HW.out HN.out hlen hb HCL.out (by omega) (fun _ => rfl) (by omega) (by unfold maxLen; omega)).mono ?_; rintro e W2 ⟨d, rfl, h2⟩)
          all_goals
            go_meet
            case rel => exact h2
    case rest =>
      have HT := hid hcut
      clear hcut HW
      go_upto_block 2 with fail
      go_cut [] from 102 to 149 (fun W => ∃ q, Two w W r g r2 g2 q q)
      case first =>
        go_wp2_with fail
        go_loopw [14] (fun i W => ∃ (k : Nat) (q : List Int), i = .int .i64 k ∧ k ≤ 4100 ∧ Hid (Two w W r g r2 g2 q q)) (fun i _ => 4100 - (intOf i).toNat)
        case atStart => exact ⟨0, bs, rfl, Nat.zero_le _, HT.out⟩
        case round =>
          obtain ⟨k, q, rfl, hk, HQ⟩ := hrel
          rename World => W
          by_cases hlt : k < 4100
          · have hlt' : (k : Int) < 4100 := by omega
            obtain ⟨T, HTT⟩ : ∃ T, Hid (strOfNums (lineL q most) = T) := ⟨_, rfl⟩
            obtain ⟨ec, HEC⟩ : ∃ ec, Hid (lineC q most = ec) := ⟨_, rfl⟩
            by_cases hec : ec = 0
            · have HE : Hid (errV (lineC q most) = .nilIface) := by show _ = _; rw [HEC.out, hec]; rfl
              clear hec
              go_wp2_with (first
                | (go_at_call 16; refine (line_second HQ.out HL1.out.1 HL1.out.2 hmost HE.out).mono ?_; rintro e W2 ⟨v2, rfl, hl2⟩; have HL2 := hid hl2; obtain ⟨pa, n, rfl, hn⟩ := hl2.one.slice; have hcv1 := conv_bytes hl2.one; have hcv2 := conv_bytes hl2.two; rw [HTT.out] at hcv1 hcv2; clear hl2 HL1)
                | (go_at_call 16; refine (line_first HQ.out hmost HE.out).mono ?_; rintro e W1 ⟨v1, rfl, HL1⟩)
                | (go_at_call 8; refine (num_nil _).mono ?_; rintro e w' ⟨rfl, rfl⟩))
              go_loop [19] (fun i => ∃ j : Nat, i = .int .i64 j ∧ j ≤ n) (fun i => n - (intOf i).toNat)
              case atStart => exact ⟨0, rfl, Nat.zero_le _⟩
              case round =>
                obtain ⟨j, rfl, hj⟩ := hrel
                have hn2 : n ≤ 4096 := by have h1 := HQ.out.ring.le; have h2 := lineL_le q most; omega
                by_cases hjn : j < n
                · obtain ⟨bb, rfl, hjl, hcell⟩ := HL2.out.one.cell j hjn
                  have hpl := lineL_plain q most j hjl
                  obtain ⟨x, HX⟩ : ∃ x, Hid ((lineL q most).getD j 0 = x) := ⟨_, rfl⟩
                  rw [HX.out] at hpl hcell
                  have hb1 : (x == 13) = false := by simpa using hpl.1
                  have hb2 : (x == 10) = false := by simpa using hpl.2
                  have hjn' : (j : Int) < n := by omega
                  clear hpl
                  go_wp2
                  go_round
                  case rel => exact ⟨j + 1, by go_num, by omega⟩
                  case measure => simp [intOf]; omega
                · have hjn' : ¬ (j : Int) < n := by omega
                  have HR := hid HL2.out.rings
                  clear HL2
                  go_wp2
                  go_roundw
                  case rel => exact ⟨k + 1, _, by go_num, by omega, HR⟩
                  case measure => simp [intOf]; omega
            · have HE : Hid (errV (lineC q most) = .iface 54 (.int .i64 ec)) := by show _ = _; rw [HEC.out]; unfold errV; rw [if_neg hec]
              clear hec
              go_wp2_with (first
                | (go_at_call 16; refine (line_second HQ.out HL1.out.1 HL1.out.2 hmost HE.out).mono ?_; rintro e W2 ⟨v2, rfl, hl2⟩; have HL2 := hid hl2; obtain ⟨pa, n, rfl, hn⟩ := hl2.one.slice; have hcv1 := conv_bytes hl2.one; have hcv2 := conv_bytes hl2.two; rw [HTT.out] at hcv1 hcv2; clear hl2 HL1)
                | (go_at_call 16; refine (line_first HQ.out hmost HE.out).mono ?_; rintro e W1 ⟨v1, rfl, HL1⟩)
                | (go_at_call 8; refine (num_err _ _).mono ?_; rintro e w' ⟨rfl, rfl⟩))
              go_loop [19] (fun i => ∃ j : Nat, i = .int .i64 j ∧ j ≤ n) (fun i => n - (intOf i).toNat)
              case atStart => exact ⟨0, rfl, Nat.zero_le _⟩
              case round =>
                obtain ⟨j, rfl, hj⟩ := hrel
                have hn2 : n ≤ 4096 := by have h1 := HQ.out.ring.le; have h2 := lineL_le q most; omega
                by_cases hjn : j < n
                · obtain ⟨bb, rfl, hjl, hcell⟩ := HL2.out.one.cell j hjn
                  have hpl := lineL_plain q most j hjl
                  obtain ⟨x, HX⟩ : ∃ x, Hid ((lineL q most).getD j 0 = x) := ⟨_, rfl⟩
                  rw [HX.out] at hpl hcell
                  have hb1 : (x == 13) = false := by simpa using hpl.1
                  have hb2 : (x == 10) = false := by simpa using hpl.2
                  have hjn' : (j : Int) < n := by omega
                  clear hpl
                  go_wp2
                  go_round
                  case rel => exact ⟨j + 1, by go_num, by omega⟩
                  case measure => simp [intOf]; omega
                · have hjn' : ¬ (j : Int) < n := by omega
                  have HR := hid HL2.out.rings
                  clear HL2
                  go_wp2
                  go_meet
                  case rel => exact ⟨_, HR.out⟩
          · have hlt' : ¬ (k : Int) < 4100 := by omega
            go_wp2
            go_meet
            case rel => exact ⟨q, HQ.out⟩
      case rest =>
        obtain ⟨q, hq⟩ := hcut
        have HQ := hid hq
        clear hq HT
        obtain ⟨T, HTT⟩ : ∃ T, Hid (strOfNums q = T) := ⟨_, rfl⟩
        go_wp2_with fail
        go_region_with (first
          | (go_at_call 18; refine (read5_second HR1.out (W' := _) (Still.refl _) HTT.out HQ.out.twin.rlt HQ.out.twin.glt).mono ?_; rintro e w2 ⟨v2, rfl, hb2, hcv2, hcv3⟩; have HB2 := hid hb2; clear HR1 hb2)
          | (go_at_call 18; refine (read5_first HQ.out (W' := wc.drew) ⟨rfl, rfl, rfl, rfl⟩ HTT.out).mono ?_; rintro e w1 ⟨v1, rfl, HR1, hcv1⟩)
          | (go_at_call 9; refine (works_any _).mono ?_; rintro e w3 ⟨rfl, hb3⟩))
        all_goals
          go_wp2
          go_ret
          exact ⟨rfl, HB2.out.trans (hb3.mono HB2.out.size)⟩
theorem cuts_walk (pv pc : Option Addr) (N c M cc : Nat) (bs : List Int) (most : Int) (w : World) (hv : ArgAt w (.slice pv N c) bs) (hN : bs.length = N) (hcuts : CutsAt w pc M) (hM : (M : Int) ≤ 9223372036854775807) (hmost : most ≤ 9223372036854775807) :
    Calls Try.prog 5 #[.slice pv N c, .slice pc M cc, .int .i64 most] w fun e w' => e = .returned (.bool true) ∧ Below w.heap.size w w' := by
  by_cases h : N ≤ 4096
  · exact cuts_short pv pc N c M cc bs most w hv hN h hcuts hM hmost
  · exact cuts_long pv pc N c M cc most w (by omega)
end Go.Proofs.Ytfiiiefhchbhlaa
