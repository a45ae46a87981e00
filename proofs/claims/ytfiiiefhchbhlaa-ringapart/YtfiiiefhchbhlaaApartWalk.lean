/- The law RingApart returns true for every text of bytes and every number. -/
import Derived.Test.YtfiiiefhchbhlaaArgs
import Derived.Test.YtfiiiefhchbhlaaTwo
import Derived.Test.YtfiiiefhchbhlaaOrder
import Derived.Deep.RegionHeld3
import Derived.Deep.CutBlock
import Derived.Deep.CutRange
namespace Go.Proofs.Ytfiiiefhchbhlaa
open Go.RowKit

/-- Behind the Clone: the ring, its twin, and the bytes that were handed in, which may be written over. -/
theorem apart_begin {w w1 w2 w3 w4 : World} {r g r2 g2 cap : Nat} {pa : Option Addr} {bs p : List Int} (hs : Stage w w1 r g []) (hm : Mine w1 w2 pa cap bs) (ht : Turn r g w2 w3) (hh : Holds w3 r g 4096 p) (hb : Below w3.heap.size w3 w4) (hr2 : w3.heap.size ≤ r2) (hg2 : w3.heap.size ≤ g2) (hh2 : Holds w4 r2 g2 4096 p) :
    Two w w4 r g r2 g2 p p ∧ Scrib pa bs.length w4 w4 ∧ ∀ a, pa = some a → w.heap.size ≤ a.block ∧ (a.block ≠ r ∧ a.block ≠ g) ∧ a.block ≠ r2 ∧ a.block ≠ g2 := by
  have l1 := hs.below.size
  have l2 := hm.below.size
  have l3 := ht.size
  have k1 := hs.ring.rlt
  have k2 := hs.ring.glt
  have k3 := hs.rlo
  have k4 := hs.glo
  refine ⟨⟨((hs.below.trans (hm.below.mono l1)).trans (ht.below (by omega) hs.rlo hs.glo)).trans (hb.mono (by omega)), ⟨hs.rlo, hs.glo, by omega, by omega⟩, hh.below hb, hh2, by omega⟩, ?_, ?_⟩
  · refine hm.scrib fun j h1 h2 => ?_
    rw [hb.block j (by omega), ht.block j h2 (by omega) (by omega)]
  · intro a ha
    obtain ⟨b, cur, rfl, h1, h2, _⟩ := hm.row a ha
    have := lt_of_heap h2
    refine ⟨by show _ ≤ b; omega, ⟨by show b ≠ _; omega, by show b ≠ _; omega⟩, by show b ≠ _; omega, by show b ≠ _; omega⟩
set_option maxRecDepth 20000 in
set_option maxHeartbeats 4000000 in
theorem apart_long (pv : Option Addr) (N c : Nat) (n : Int) (w : World) (hlen : (4096 : Int) < N) :
    Calls Try.prog 4 #[.slice pv N c, .int .i64 n] w fun e w' => e = .returned (.bool true) ∧ Below w.heap.size w w' := by
  go_enter Try.func4, Try.ntmps4
  go_wp2_with (first
    | (go_at_call 6; refine (hnew_any 4096 _ (by omega) (by omega)).mono ?_; rintro e w1 ⟨r, rfl, g, hb, hr, hg, hh⟩)
    | (go_at_call 9; refine (works_any _).mono ?_; rintro e w2 ⟨rfl, hb2⟩))
  go_ret
  exact ⟨rfl, hb.trans (hb2.mono hb.size)⟩
theorem more_write {w W : World} {r g r2 g2 : Nat} {p q : List Int} (h : Two w W r g r2 g2 p q) (C : Array Value) (z : Nat × Nat) (hC : C = (([109, 111, 114, 101] : List Int).map (Value.int .u8)).toArray) :
    Calls Try.prog 12 #[.pointer (some ⟨r2, 0, none⟩), .slice (some ⟨W.heap.size, 0, none⟩) 4 4] (W.alloc (.cells C 5 z)) fun e w' => ∃ m, e = .returned (.int .i64 m) ∧ ∃ q', Two w w' r g r2 g2 p q' := by
  have hb : Below W.heap.size W (W.alloc (.cells C 5 z)) := (Below.refl _ _).alloc (Nat.le_refl _) _
  refine (hwrite_any (h.over hb).twin (lit_src W g2 h.twin.glt [109, 111, 114, 101] C z hC 4 rfl (by omega)) _ rfl).mono ?_
  rintro e w' ⟨rfl, ht, hz, hh⟩
  exact ⟨_, rfl, _, (h.over hb).turn2 ht hh⟩
theorem skip_two {w W : World} {r g r2 g2 : Nat} {p q : List Int} (h : Two w W r g r2 g2 p q) (n : Int) :
    Calls Try.prog 15 #[.pointer (some ⟨r2, 0, none⟩), .int .i64 n] W fun e w' => ∃ m, e = .returned (.int .i64 m) ∧ ∃ q', Two w w' r g r2 g2 p q' := by
  refine (hskip_any h.twin n).mono ?_
  rintro e w' ⟨rfl, ht, hz, hh⟩
  exact ⟨_, rfl, _, h.turn2 ht hh⟩
theorem read_two {w W W' : World} {r g r2 g2 N : Nat} {bs q : List Int} {T : ByteArray} (h : Two w W r g r2 g2 bs q) (hs : Still W W') (hN : bs.length = N) (hT : strOfNums bs = T) {va : Value} (hva : ArgAt w va bs) :
    Calls Try.prog 18 #[.pointer (some ⟨r, 0, none⟩), .int .i64 N] W' fun e w' => ∃ v, e = .returned v ∧ Two w w' r g r2 g2 [] q ∧ (convert 28 9 v).run Try.prog w' = .ok (.string T) w' ∧ (convert 28 9 va).run Try.prog w' = .ok (.string T) w' := by
  have h1 := h.still hs
  refine (hread_any h1.ring N).mono ?_
  rintro e w' ⟨v, rfl, hv, ht, hh⟩
  rw [held_nat N _ (by omega)] at hv hh
  rw [List.take_of_length_le (by omega)] at hv
  rw [List.drop_eq_nil_of_le (by omega)] at hh
  have h2 := h1.turn1 ht hh
  refine ⟨v, rfl, h2, by rw [← hT]; exact conv_bytes hv, by rw [← hT]; exact (hva.below h2.below).conv⟩
set_option maxRecDepth 20000 in
set_option maxHeartbeats 4000000 in
theorem apart_short (pv : Option Addr) (c : Nat) (bs : List Int) (n : Int) (w : World) (hv : ArgAt w (.slice pv bs.length c) bs) (hlen : bs.length ≤ 4096) :
    Calls Try.prog 4 #[.slice pv bs.length c, .int .i64 n] w fun e w' => e = .returned (.bool true) ∧ Below w.heap.size w w' := by
  obtain ⟨N, HN⟩ : ∃ N, Hid (bs.length = N) := ⟨_, rfl⟩
  rw [HN.out] at hlen
  have hlen' : (N : Int) ≤ 4096 := by omega
  have HV : Hid (ArgAt w (.slice pv N c) bs) := by rw [← HN.out]; exact hv
  rw [HN.out]
  clear hv
  go_enter Try.func4, Try.ntmps4
  go_wp2_with (first
    | (go_at_call 6; refine (hnew_any 4096 _ (by omega) (by omega)).mono ?_; rintro e w1 ⟨r, rfl, g, hb, hr, hg, hh⟩; have HS : Hid (Stage w w1 r g []) := ⟨hb, hr, hg, hh⟩; clear hb hr hg hh)
    | (at_builtin; refine wpList_append_bytes rfl _ _ rfl rfl _ rfl bs (HV.out.below HS.out.below) (by rw [HN.out]; omega) ?_; intro pa cap w2 hm; have HM := hid hm; clear hm; rw [HN.out])
    | (go_at_call 12; refine (hwrite_any (HS.out.ring.below HM.out.below) (v := .slice pa N cap) (by rw [← HN.out]; exact HM.out.src HS.out.ring.glt) N (by rw [HN.out]; simp; omega)).mono ?_; rintro e w3 ⟨rfl, ht3, hz3, hh3⟩; have HW : Hid (Turn r g w2 w3 ∧ Holds w3 r g 4096 bs) := ⟨ht3, by simpa [← HN.out] using hh3⟩; clear ht3 hz3 hh3)
    | (go_at_call 13; refine (hclone_any HW.out.2).mono ?_; rintro e w4 ⟨r2, rfl, g2, hb4, hr4, hg4, hh4⟩; have HB := hid (apart_begin HS.out HM.out HW.out.1 HW.out.2 hb4 hr4 hg4 hh4); rw [HN.out] at HB; clear hb4 hr4 hg4 hh4))
  clear HS HM HW
  go_loopw [9] (fun i W => ∃ k : Nat, i = .int .i64 k ∧ k ≤ N ∧ Scrib pa N w4 W) (fun i _ => N - (intOf i).toNat)
  case atStart => exact ⟨0, rfl, Nat.zero_le _, HB.out.2.1⟩
  case round =>
    obtain ⟨k, rfl, hk, hsc⟩ := hrel
    rename World => w5
    by_cases hlt : k < N
    · obtain ⟨bb, y, rfl, hcell, hfz⟩ := hsc.cell hlt
      have hlt' : (k : Int) < N := by omega
      go_wp2
      go_roundw
      case rel => exact ⟨k + 1, by go_num, by omega, hsc.step _⟩
      case measure => simp [intOf]; omega
    · have HT := hid (HB.out.1.scrib hsc HB.out.2.2)
      clear hsc HB
      obtain ⟨M, HMM⟩ : ∃ M, Hid ((bs.take (held n bs.length)).length = M) := ⟨_, rfl⟩
      go_wp2_with (go_at_call 14; refine (hpeek_any HT.out.twin n).mono ?_; rintro e w6 ⟨v6, rfl, hv6, hb6⟩; obtain ⟨pb, rfl, hsc6, hlo6⟩ := hv6.form; rw [HMM.out] at hsc6 ⊢; have HP : Hid (Two w w6 r g r2 g2 bs bs ∧ Scrib pb M w6 w6 ∧ ∀ a, pb = some a → w.heap.size ≤ a.block ∧ (a.block ≠ r ∧ a.block ≠ g) ∧ a.block ≠ r2 ∧ a.block ≠ g2) := ⟨HT.out.over hb6, hsc6, fun a ha => by have h1 := hlo6 a ha; have h2 := HT.out.ring.rlt; have h3 := HT.out.ring.glt; have h4 := HT.out.twin.rlt; have h5 := HT.out.twin.glt; have h6 := HT.out.below.size; omega⟩; clear hv6 hb6 hsc6 hlo6)
      clear HT
      go_loopw [11] (fun i W => ∃ k : Nat, i = .int .i64 k ∧ k ≤ M ∧ Scrib pb M w6 W) (fun i _ => M - (intOf i).toNat)
      case atStart => exact ⟨0, rfl, Nat.zero_le _, HP.out.2.1⟩
      case round =>
        obtain ⟨k, rfl, hk, hsc⟩ := hrel
        rename World => w7
        have hM : M ≤ 4096 := by have := HMM.out; simp at this; have := HN.out; omega
        by_cases hlt : k < M
        · obtain ⟨bb, y, rfl, hcell, hfz⟩ := hsc.cell hlt
          have hlt' : (k : Int) < M := by omega
          go_wp2
          go_roundw
          case rel => exact ⟨k + 1, by go_num, by omega, hsc.step _⟩
          case measure => simp [intOf]; omega
        · have HT := hid (HP.out.1.scrib hsc HP.out.2.2)
          have hcv := conv28
          clear hsc HP
          go_upto_region 23 with (first
            | (go_at_call 15; refine (skip_two HT.out n).mono ?_; rintro e w8 ⟨m8, rfl, q8, h8⟩; have HT8 := hid h8; clear HT h8)
            | (go_at_call 12; refine (more_write HT8.out _ _ rfl).mono ?_; rintro e w9 ⟨m9, rfl, q9, h9⟩; have HT9 := hid h9; clear HT8 h9)
            | (go_at_call 16; refine (line_nilring _).mono ?_; rintro e w' ⟨rfl, rfl⟩))
          go_cut [12, 13, 14, 16] from 17 to 139 (fun s12 s13 s14 s16 W => s12 = .pointer none ∧ s13 = .slice none 0 0 ∧ s14 = .iface 54 (.int .i64 8) ∧ s16 = .bool false ∧ Two w W r g r2 g2 bs q9)
          case first =>
            go_wp2_with (go_at_call 17; refine (at_nilring _).mono ?_; rintro e w' ⟨rfl, rfl⟩)
            go_meet
            case rel => exact ⟨rfl, rfl, rfl, rfl, HT9.out⟩
          case rest =>
            obtain ⟨rfl, rfl, rfl, rfl, h10⟩ := hcut
            have HT10 := hid h10
            obtain ⟨T, HTT⟩ : ∃ T, Hid (strOfNums bs = T) := ⟨_, rfl⟩
            have hc9' : (convert 28 9 (.slice pv N c)).run Try.prog wc.drew = .ok (.string T) wc.drew := by
              rw [← HTT.out]
              exact (HV.out.below (HT10.out.still (W' := wc.drew) ⟨rfl, rfl, rfl, rfl⟩).below).conv
            clear HMM hM hk hlt hlen hlen' h10 HT9 hcv
            go_wp2_with fail
            refine wp_region_noPanic ?_
            refine any_begin 52 (by kernel_rfl) (by kernel_rfl) ?_
            refine any_take (i := 0) (some 89) rfl rfl (by kernel_rfl) (by kernel_rfl) (by kernel_rfl) (fun _ _ _ h => h) (by rfl) (v := ?v0) ?hy0 ?rest0
            case hy0 => intro w0; go_simp; try with_reducible rfl
            simp only [Act.put, List.setIfInBounds_toArray, List.set_cons_zero, List.set_cons_succ]
            refine any_take (i := 1) (some 90) rfl rfl (by kernel_rfl) (by kernel_rfl) (by kernel_rfl) (fun _ _ _ h => h) (by rfl) (v := ?v1) ?hy1 ?rest1
            case hy1 => intro w0; go_simp; try with_reducible rfl
            simp only [Act.put, List.setIfInBounds_toArray, List.set_cons_zero, List.set_cons_succ]
            refine any_take (i := 2) (some 91) rfl rfl (by kernel_rfl) (by kernel_rfl) (by kernel_rfl) (fun _ _ _ h => h) (by rfl) (v := ?v2) ?hy2 ?rest2
            case hy2 => intro w0; go_simp; try with_reducible rfl
            simp only [Act.put, List.setIfInBounds_toArray, List.set_cons_zero, List.set_cons_succ]
            refine any_take (i := 5) (some 94) rfl rfl (by kernel_rfl) (by kernel_rfl) (by kernel_rfl) (fun _ _ _ h => h) (by rfl) (v := ?v5) ?hy5 ?rest5
            case hy5 => intro w0; go_simp; try with_reducible rfl
            simp only [Act.put, List.setIfInBounds_toArray, List.set_cons_zero, List.set_cons_succ]
            refine late_begin (fun W => (convert 28 9 (.slice pv N c)).run Try.prog W = .ok (.string T) W) (fun j => decide (7 ≤ j)) hc9' (fun hS => ?_)
            refine late_take (i := 6) (some 95) rfl rfl (by kernel_rfl) (by kernel_rfl) (by kernel_rfl) (by kernel_rfl) (by kernel_rfl) (fun _ _ _ h => h) (by rfl) (v := ?v6) ?hy6 hS ?rest6
            case hy6 => intro w0 hSw; (try dsimp only at hSw); go_simp; try with_reducible rfl
            simp only [Act.put, List.setIfInBounds_toArray, List.set_cons_zero, List.set_cons_succ]
            refine wpAnyD_one (i := 3) (o := { dst := some 92, op := Op.call { callee := Callee.value (Operand.func 18), args := #[Operand.tmp 89, Operand.tmp 91], argTypes := #[23, 3] }, type := 28, pos := "law.go:115", after := #[{ on := 0, ground := Ground.data }, { on := 2, ground := Ground.data }], guard := none }) (by kernel_rfl) rfl (fun K hK => ?_)
            go_simp
            go_at_call 18
            refine (read_two HT10.out (W' := wc.drew) ⟨rfl, rfl, rfl, rfl⟩ HN.out HTT.out HV.out).mono ?_
            rintro e w10 ⟨v10, rfl, h10, hcv1, hcv2⟩
            have HT11 := hid h10
            clear h10 HT10
            refine hK _ _ ⟨fun _ => hcv2, ?_⟩
            clear hK K
            refine wpAnyD_one (i := 4) (o := { dst := some 93, op := Op.convert 28 9 (Operand.tmp 92), type := 9, pos := "law.go:115", after := #[{ on := 3, ground := Ground.data }], guard := none }) (by kernel_rfl) rfl (fun K hK => ?_)
            go_simp
            refine hK _ _ ⟨fun _ => hcv2, ?_⟩
            clear hK K
            refine late_tail 7 (by kernel_rfl) (fun _ _ _ _ _ h => h) (by kernel_rfl) (by kernel_rfl) (by kernel_rfl) ?_
            simp only [List.drop_succ_cons, List.drop_zero]
            go_wp2_with (first
              | (go_at_call 19; with_reducible refine (hlen_any HT11.out.ring).mono ?_; rintro e w' ⟨rfl, rfl⟩)
              | (go_at_call 19; with_reducible refine (len_nil _).mono ?_; rintro e w' ⟨rfl, rfl⟩)
              | (go_at_call 12; refine (write_nilring _ _).mono ?_; rintro e w' ⟨rfl, rfl⟩)
              | (go_at_call 20; refine (index_nilring _).mono ?_; rintro e w' ⟨rfl, rfl⟩)
              | (go_at_call 8; refine (num_err _ _).mono ?_; rintro e w' ⟨rfl, rfl⟩)
              | (go_at_call 13; refine (clone_nilring _).mono ?_; rintro e w' ⟨rfl, rfl⟩)
              | (go_at_call 9; refine (works_any _).mono ?_; rintro e w11 ⟨rfl, hb11⟩; have HT12 := hid (HT11.out.over hb11); clear HT11 hb11))
            refine NoPanic.normal ?_
            go_wp2
            go_ret
            exact ⟨rfl, HT12.out.below⟩
theorem apart_walk (pv : Option Addr) (N c : Nat) (bs : List Int) (n : Int) (w : World) (hv : ArgAt w (.slice pv N c) bs) (hN : bs.length = N) :
    Calls Try.prog 4 #[.slice pv N c, .int .i64 n] w fun e w' => e = .returned (.bool true) ∧ Below w.heap.size w w' := by
  subst hN
  by_cases h : bs.length ≤ 4096
  · exact apart_short pv c bs n w hv h
  · exact apart_long pv bs.length c n w (by omega)
end Go.Proofs.Ytfiiiefhchbhlaa
