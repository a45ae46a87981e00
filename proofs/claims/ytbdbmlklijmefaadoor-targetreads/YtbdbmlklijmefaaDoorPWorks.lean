/- The head of the statements: num, same, works. -/
import Derived.Test.YtbdbmlklijmefaaDoorPParse
import Derived.Test.YtbdbmlklijmefaaDoorOrder
namespace Go.Proofs.YtbdbmlklijmefaaDoor
open Go.RowKit

set_option maxRecDepth 20000 in
set_option maxHeartbeats 4000000 in
theorem num_none (w : World) : Calls Tryd.prog 11 #[.nilIface] w fun e w' => e = .returned (.int .i64 0) ∧ w' = w := by
  go_enter Tryd.func11, Tryd.ntmps11
  go_wp2
  go_ret
  exact ⟨rfl, rfl⟩
theorem assertE (v : Value) (w : World) : (Instr.typeAssert (.iface 55 v) 25 55 true).run Tryd.prog w = .ok (.tuple #[v, .bool true]) w := by kernel_rfl
set_option maxRecDepth 20000 in
set_option maxHeartbeats 4000000 in
theorem num_some (k : Nat) (w : World) : Calls Tryd.prog 11 #[.iface 55 (.int .i64 (k : Int))] w fun e w' => e = .returned (.int .i64 (k : Int)) ∧ w' = w := by
  have ha := assertE (.int .i64 (k : Int))
  go_enter Tryd.func11, Tryd.ntmps11
  go_wp2
  go_ret
  exact ⟨rfl, rfl⟩
theorem errnum_any (k : Nat) (w : World) : Calls Tryd.prog 11 #[errOf k] w fun e w' => e = .returned (.int .i64 (k : Int)) ∧ w' = w := by
  by_cases h : k = 0
  · subst h
    exact num_none w
  · rw [errOf_pos h]
    exact num_some k w
set_option maxRecDepth 20000 in
set_option maxHeartbeats 4000000 in
theorem same_rows (ns : List B) (n : Nat) (hn : ns.length = n) (hl : n ≤ 4294967290) (b1 b2 c1 c2 : Nat) (p1 p2 : Option Addr) (w : World) (h1 : OwnS w b1 (.slice p1 n c1) ns) (h2 : OwnS w b2 (.slice p2 n c2) ns) : Calls Tryd.prog 19 #[.slice p1 n c1, .slice p2 n c2] w fun e w' => e = .returned (.bool true) ∧ Below w.heap.size w w' := by
  have H1 := hid h1
  have H2 := hid h2
  have HN := hid hn
  clear h1 h2 hn
  go_enter Tryd.func19, Tryd.ntmps19
  go_wp2
  go_loopg [5] (n + 1) (fun gk s5 wr => ∃ i : Nat, i ≤ n ∧ gk = n - i + 1 ∧ s5 = .int .i64 (i : Int) ∧ ∃ q, wr = w.drewN q)
  case atStart => exact ⟨0, by omega, rfl, rfl, 0, rfl⟩
  case round =>
    obtain ⟨i, hi, rfl, rfl, q, hq⟩ := hrel
    have HQ := hid hq
    by_cases hin : i < n
    · have hi1 : i < ns.length := by rw [HN.out]; exact hin
      obtain ⟨t, ht⟩ : ∃ t, ns[i]? = some t := ⟨_, List.getElem?_eq_getElem hi1⟩
      have hb : Below w.heap.size w wr := by rw [hq]; exact below_drew (Below.refl _ _) q
      obtain ⟨g1, o1, rfl, hc1⟩ := (H1.out.keep hb).at ht
      obtain ⟨g2, o2, rfl, hc2⟩ := (H2.out.keep hb).at ht
      clear hi1 ht hb hq
      obtain ⟨T, hT⟩ : ∃ T, str t = T := ⟨_, rfl⟩
      rw [hT] at hc1 hc2
      clear hT
      have hd1 : wr.drew.cell? ⟨g1, o1 + i, none⟩ = some (.string T) := hc1
      have hd2 : wr.drew.cell? ⟨g2, o2 + i, none⟩ = some (.string T) := hc2
      have mixed : Tryd.prog.follows .mixedOrders = true := by kernel_rfl
      go_wp2
      go_region_o
      go_wp2
      go_roundg (n - (i + 1) + 1)
      case measure => omega
      case rel => exact ⟨i + 1, by omega, rfl, by push_cast; go_num, q + 1, by rw [HQ.out]; rfl⟩
    · obtain rfl : n = i := by omega
      clear hq
      go_wp2
      go_ret
      exact ⟨rfl, by rw [HQ.out]; exact below_drew (Below.refl _ _) q⟩
theorem work1 : normalB [47, 97, 47, 46, 47, 98, 47, 46, 46, 47, 37, 55, 101, 99, 37, 50, 102] = some [47, 97, 47, 126, 99, 37, 50, 70] := by decide +kernel
theorem work2 : normalB [47, 46, 46] = none := by decide +kernel
theorem work3 : parseT [104, 116, 116, 112, 58, 47, 47, 72, 58, 56, 48, 63, 120] = (⟨2, [104, 58, 56, 48], [47], [120], true⟩, 0) := by decide +kernel
theorem work4 : segsT [47, 97, 37, 50, 48, 98, 47] = ([[97, 32, 98], []], 0) := by decide +kernel
set_option maxRecDepth 20000 in
set_option maxHeartbeats 4000000 in
theorem works_any (w : World) (hE : Env w) : Calls Tryd.prog 12 #[] w fun e w' => e = .returned (.bool true) ∧ Below w.heap.size w w' := by
  have HE := hid hE
  have H1 := hid (show ∀ w, Env w → Calls Tryd.prog 15 #[.string ⟨#[47, 97, 47, 46, 47, 98, 47, 46, 46, 47, 37, 55, 101, 99, 37, 50, 102]⟩] w fun e w' => e = .returned (.tuple #[.string ⟨#[47, 97, 47, 126, 99, 37, 50, 70]⟩, .nilIface]) ∧ Below w.heap.size w w' from fun w hE => by have h := pnormal_any [47, 97, 47, 46, 47, 98, 47, 46, 46, 47, 37, 55, 101, 99, 37, 50, 102] (by decide) w hE; rw [work1] at h; exact h)
  have H2 := hid (show ∀ w, Env w → Calls Tryd.prog 15 #[.string ⟨#[47, 46, 46]⟩] w fun e w' => e = .returned (.tuple #[.string ⟨#[]⟩, .iface 55 (.int .i64 23)]) ∧ Below w.heap.size w w' from fun w hE => by have h := pnormal_any [47, 46, 46] (by decide) w hE; rw [work2] at h; exact h)
  have H3 := hid (show ∀ w, Env w → Calls Tryd.prog 9 #[.string ⟨#[104, 116, 116, 112, 58, 47, 47, 72, 58, 56, 48, 63, 120]⟩] w fun e w' => e = .returned (.tuple #[.agg #[.int .i64 2, .string ⟨#[104, 58, 56, 48]⟩, .string ⟨#[47]⟩, .string ⟨#[120]⟩, .bool true], .nilIface]) ∧ Below w.heap.size w w' from fun w hE => by have h := pparse_any [104, 116, 116, 112, 58, 47, 47, 72, 58, 56, 48, 63, 120] (by decide) w hE; rw [work3] at h; exact h)
  have H4 := hid (show ∀ w, Env w → Calls Tryd.prog 17 #[.string ⟨#[47, 97, 37, 50, 48, 98, 47]⟩] w fun e w' => ∃ p c, e = .returned (.tuple #[.slice p 2 c, .nilIface]) ∧ OwnS w' w.heap.size (.slice p 2 c) [[97, 32, 98], []] ∧ Below w.heap.size w w' from fun w hE => by have h := psegs_any [47, 97, 37, 50, 48, 98, 47] (by decide) w hE; rw [work4] at h; exact h)
  have H5 := hid (num_some 23)
  clear hE
  go_enter Tryd.func12, Tryd.ntmps12
  go_wp2_with (first
    | (go_at_call 15; (with_reducible refine (H1.out _ HE.out).mono ?_); rintro e w1 ⟨rfl, hb⟩; have HB1 := hid hb; have HE1 := hid (HE.out.below hb); clear hb)
    | (go_at_call 15; (with_reducible refine (H2.out _ HE1.out).mono ?_); rintro e w2 ⟨rfl, hb⟩; have HB2 := hid (below_out HB1.out hb); have HE2 := hid (HE1.out.below hb); clear hb)
    | (go_at_call 9; (with_reducible refine (H3.out _ HE2.out).mono ?_); rintro e w3 ⟨rfl, hb⟩; have HB3 := hid (below_out HB2.out hb); have HE3 := hid (HE2.out.below hb); have HE4 := hid (HE3.out.below (below_new w3 (.cells #[.int .i64 2, .string ⟨#[104, 58, 56, 48]⟩, .string ⟨#[47]⟩, .string ⟨#[120]⟩, .bool true] 23 (0, 0)))); clear hb)
    | (go_at_call 17; (with_reducible refine (H4.out _ HE4.out).mono ?_); rintro e w5 ⟨p, c, rfl, ho, hb⟩; have HB5 := hid (below_out HB3.out (below_out (below_new w3 (.cells #[.int .i64 2, .string ⟨#[104, 58, 56, 48]⟩, .string ⟨#[47]⟩, .string ⟨#[120]⟩, .bool true] 23 (0, 0))) hb)); obtain ⟨x0, x1, x2, x3, x4, xz⟩ := five ((hb.block _ (lt_of_heap (heap_alloc_new w3 (.cells #[.int .i64 2, .string ⟨#[104, 58, 56, 48]⟩, .string ⟨#[47]⟩, .string ⟨#[120]⟩, .bool true] 23 (0, 0))))).trans (heap_alloc_new w3 (.cells #[.int .i64 2, .string ⟨#[104, 58, 56, 48]⟩, .string ⟨#[47]⟩, .string ⟨#[120]⟩, .bool true] 23 (0, 0)))); obtain ⟨g, o, rfl, hc⟩ := ho.at (j := 0) rfl; rw [Nat.add_zero] at hc; clear hb ho xz)
    | (go_at_call 11; refine (H5.out _).mono ?_; rintro e w6 ⟨rfl, rfl⟩))
  go_ret
  exact ⟨rfl, HB5.out⟩
end Go.Proofs.YtbdbmlklijmefaaDoor
