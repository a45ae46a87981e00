/- The program's host and port. -/
import Derived.Test.YthakldcfpndabaaGreatDoorHHas
import Derived.Test.YthakldcfpndabaaGreatDoorHHostP
import Derived.Test.YthakldcfpndabaaGreatDoorCNum
namespace Go.Proofs.YthakldcfpndabaaGreatDoor
open Go.RowKit

def hostZ (z : Int) : Bool := decide (z = 45 ∨ z = 46 ∨ z = 95 ∨ (97 ≤ z ∧ z ≤ 122) ∨ (65 ≤ z ∧ z ≤ 90) ∨ (48 ≤ z ∧ z ≤ 57))
theorem hostZ_B : ∀ c : UInt8, hostZ (c.toNat : Int) = hostB c := by
  intro c
  have h : ∀ n : Fin 256, hostZ ((UInt8.ofNat n.1).toNat : Int) = hostB (UInt8.ofNat n.1) := by decide +kernel
  have h2 := h ⟨c.toNat, c.toNat_lt⟩
  simpa using h2
set_option maxRecDepth 20000 in
set_option maxHeartbeats 4000000 in
theorem hostbyte_any (z : Int) (h0 : 0 ≤ z) (h1 : z ≤ 255) (w : World) : Calls Tryz.prog 23 #[.int .u8 z] w fun e w' => e = .returned (.bool (hostZ z)) ∧ w' = w := by
  have HD := hid (show ∀ W : World, _ from fun W => digit_any z W h0 h1)
  obtain ⟨R, hR⟩ : ∃ R, hostZ z = R := ⟨_, rfl⟩
  have HR := hid hR
  rw [hR]
  clear hR
  by_cases e1 : z = 45
  · subst e1
    have HT := hid (show R = true from HR.out ▸ rfl)
    go_enter Tryz.func23, Tryz.ntmps23
    go_wp2
    go_ret
    exact ⟨(by rw [HT.out]; rfl), rfl⟩
  by_cases e2 : z = 46
  · subst e2
    have HT := hid (show R = true from HR.out ▸ rfl)
    go_enter Tryz.func23, Tryz.ntmps23
    go_wp2
    go_ret
    exact ⟨(by rw [HT.out]; rfl), rfl⟩
  by_cases e3 : z = 95
  · subst e3
    have HT := hid (show R = true from HR.out ▸ rfl)
    go_enter Tryz.func23, Tryz.ntmps23
    go_wp2
    go_ret
    exact ⟨(by rw [HT.out]; rfl), rfl⟩
  by_cases a1 : 97 ≤ z
  · by_cases a2 : z ≤ 122
    · have HT := hid (show R = true from by rw [← HR.out]; unfold hostZ; exact decide_eq_true (by omega))
      go_enter Tryz.func23, Tryz.ntmps23
      go_wp2
      go_ret
      exact ⟨(by rw [HT.out]; rfl), rfl⟩
    · have HT := hid (show R = false from by rw [← HR.out]; unfold hostZ; exact decide_eq_false (by omega))
      have b1 : 65 ≤ z := by omega
      have b2 : ¬ z ≤ 90 := by omega
      have hd : digB z = false := by unfold digB; exact decide_eq_false (by omega)
      rw [hd] at HD
      go_enter Tryz.func23, Tryz.ntmps23
      go_wp2_with (go_at_call 41; (with_reducible refine (HD.out _).mono ?_); rintro e w1 ⟨rfl, hw1⟩; subst w1)
      go_ret
      exact ⟨(by rw [HT.out]; rfl), rfl⟩
  · by_cases b1 : 65 ≤ z
    · by_cases b2 : z ≤ 90
      · have HT := hid (show R = true from by rw [← HR.out]; unfold hostZ; exact decide_eq_true (by omega))
        go_enter Tryz.func23, Tryz.ntmps23
        go_wp2
        go_ret
        exact ⟨(by rw [HT.out]; rfl), rfl⟩
      · have HT := hid (show R = false from by rw [← HR.out]; unfold hostZ; exact decide_eq_false (by omega))
        have hd : digB z = false := by unfold digB; exact decide_eq_false (by omega)
        rw [hd] at HD
        go_enter Tryz.func23, Tryz.ntmps23
        go_wp2_with (go_at_call 41; (with_reducible refine (HD.out _).mono ?_); rintro e w1 ⟨rfl, hw1⟩; subst w1)
        go_ret
        exact ⟨(by rw [HT.out]; rfl), rfl⟩
    · obtain ⟨D, hD⟩ : ∃ D, digB z = D := ⟨_, rfl⟩
      have HT := hid (show R = D from by rw [← HR.out, ← hD]; unfold hostZ digB; exact decide_eq_decide.2 (by omega))
      rw [hD] at HD
      clear hD
      go_enter Tryz.func23, Tryz.ntmps23
      go_wp2_with (go_at_call 41; (with_reducible refine (HD.out _).mono ?_); rintro e w1 ⟨rfl, hw1⟩; subst w1)
      go_ret
      exact ⟨(by rw [HT.out]; rfl), rfl⟩
theorem empty_str (s : B) : (str s).toList.isEmpty = s.isEmpty := by
  rw [empty_size, str_size]
  cases s <;> simp
set_option maxRecDepth 20000 in
set_option maxHeartbeats 4000000 in
theorem ishost_any (s : B) (hs : s.length ≤ 1048576) (w : World) : Calls Tryz.prog 12 #[.string (str s)] w fun e w' => e = .returned (.bool (!s.isEmpty && s.all hostB)) ∧ Below w.heap.size w w' := by
  obtain ⟨R, hR⟩ : ∃ R, (!s.isEmpty && s.all hostB) = R := ⟨_, rfl⟩
  have HR := hid hR
  rw [hR]
  clear hR
  obtain ⟨n, hn⟩ : ∃ n, s.length = n := ⟨_, rfl⟩
  have hsz : (str s).size = n := by rw [str_size, hn]
  have HN := hid hn
  rw [hn] at hs
  have HAt := hid (show ∀ (i : Nat) (c : UInt8) (h : i < (str s).size), s[i]? = some c → (str s)[i] = c from fun i c h e => by
    have h2 : (str s).data.toList[i]? = some c := e
    have h3 : (str s).data[i]? = some c := by simpa using h2
    obtain ⟨h4, h5⟩ := Array.getElem?_eq_some_iff.1 h3
    exact h5)
  have HE := hid (show (str s).toList.isEmpty = s.isEmpty from empty_str s)
  obtain ⟨S, hS⟩ : ∃ S, str s = S := ⟨_, rfl⟩
  rw [hS] at hsz HAt HE
  rw [hS]
  clear hn hS
  go_enter Tryz.func12, Tryz.ntmps12
  go_wp2
  go_loopg [6] (n + 1) (fun gk s6 wr => ∃ i : Nat, s6 = .int .i64 (i : Int) ∧ i ≤ n ∧ gk = n - i + 1 ∧ Below w.heap.size w wr ∧ (s.take i).all hostB = true)
  case atStart => exact ⟨0, rfl, by omega, rfl, (by first | exact Below.refl _ _ | exact (Below.refl _ _).drew), rfl⟩
  case round =>
    obtain ⟨i, rfl, hin, rfl, hb, hh⟩ := hrel
    have HB := hid hb
    have HH := hid hh
    clear hb hh
    by_cases hlt : i < n
    · obtain ⟨c, hc⟩ : ∃ c, s[i]? = some c := ⟨s[i]'(by rw [HN.out]; exact hlt), List.getElem?_eq_getElem _⟩
      have hltI : (i : Int) < (n : Int) := by omega
      have hltS : i < S.size := by rw [hsz]; exact hlt
      have hat := HAt.out i c hltS hc
      have hlt8 := c.toNat_lt
      have HHb := hid (show ∀ W : World, _ from fun W => hostbyte_any (c.toNat : Int) (by omega) (by omega) W)
      rw [hostZ_B] at HHb
      have HC := hid hc
      clear hc
      cases hB : hostB c with
      | true =>
        rw [hB] at HHb
        have HX := hid (show (s.take (i + 1)).all hostB = true from by rw [List.take_add_one, HC.out, List.all_append, HH.out]; simp [hB])
        go_wp2_with (go_at_call 23; (try rw [hat]); (with_reducible refine (HHb.out _).mono ?_); rintro e w1 ⟨rfl, hw1⟩; subst w1)
        go_roundg (n - (i + 1) + 1)
        case measure => omega
        case rel => exact ⟨i + 1, by go_num, by omega, rfl, (by first | exact HB.out | exact HB.out.drew), HX.out⟩
      | false =>
        rw [hB] at HHb
        have HX := hid (show R = false from by
          rw [← HR.out]
          have h9 : s.all hostB = false := by
            cases h8 : s.all hostB with
            | false => rfl
            | true => have := List.all_eq_true.1 h8 c (List.mem_of_getElem? HC.out); rw [hB] at this; cases this
          rw [h9, Bool.and_false])
        go_wp2_with (go_at_call 23; (try rw [hat]); (with_reducible refine (HHb.out _).mono ?_); rintro e w1 ⟨rfl, hw1⟩; subst w1)
        (try simp only [Exit.inBlock, Exit.then])
        go_ret
        exact ⟨(by rw [HX.out]; rfl), (by first | exact HB.out | exact HB.out.drew)⟩
    · obtain rfl : i = n := by omega
      have hltI : ¬ (i : Int) < (i : Int) := by omega
      have HX := hid (show R = !s.isEmpty from by
        have h9 := HH.out
        rw [List.take_of_length_le (by rw [HN.out]; exact Nat.le_refl _)] at h9
        rw [← HR.out, h9, Bool.and_true])
      clear hlt
      go_wp2
      go_ret
      refine ⟨?_, (by first | exact HB.out | exact HB.out.drew)⟩
      rw [HX.out, ← HE.out]
      first | rfl | simp
def okP (p : B) : Bool := decide (numE 10 65535 (str p) = 0)
set_option maxRecDepth 20000 in
set_option maxHeartbeats 4000000 in
theorem isport_any (s : B) (hs : s.length ≤ 1048576) (w : World) : Calls Tryz.prog 13 #[.string (str s)] w fun e w' => e = .returned (.bool (s.isEmpty || okP s)) ∧ w' = w := by
  have HD := hid (show ∀ W : World, _ from fun W => decimal_any (str s) 65535 W (Nat.le_trans (by rw [str_size]; exact hs) (by decide)) (by decide) (by decide))
  obtain ⟨x, hx⟩ : ∃ x, numN 10 65535 (str s) = x := ⟨_, rfl⟩
  obtain ⟨y, hy⟩ : ∃ y, numE 10 65535 (str s) = y := ⟨_, rfl⟩
  have HO := hid (show okP s = decide (y = 0) from by unfold okP; rw [hy])
  have hE := empty_str s
  rw [hx, hy] at HD
  obtain ⟨S, hS⟩ : ∃ S, str s = S := ⟨_, rfl⟩
  rw [hS] at HD hE
  rw [hS, HO.out]
  clear hx hy hS HO
  cases hem : s.isEmpty with
  | true =>
    rw [hem] at hE
    go_enter Tryz.func13, Tryz.ntmps13
    go_wp2_with (go_at_call 24; (with_reducible refine (HD.out _).mono ?_); rintro e w1 ⟨rfl, hw1⟩; subst w1)
    go_ret
    exact ⟨rfl, rfl⟩
  | false =>
    rw [hem] at hE
    by_cases hy : y = 0
    · subst hy
      rw [show errV 0 = .nilIface from rfl] at HD
      go_enter Tryz.func13, Tryz.ntmps13
      go_wp2_with (go_at_call 24; (with_reducible refine (HD.out _).mono ?_); rintro e w1 ⟨rfl, hw1⟩; subst w1)
      go_ret
      exact ⟨rfl, rfl⟩
    · rw [show errV y = .iface 37 (.int .i64 y) from by unfold errV; rw [if_neg hy]] at HD
      rw [show decide (y = 0) = false from decide_eq_false hy]
      go_enter Tryz.func13, Tryz.ntmps13
      go_wp2_with (go_at_call 24; (with_reducible refine (HD.out _).mono ?_); rintro e w1 ⟨rfl, hw1⟩; subst w1)
      go_ret
      exact ⟨rfl, rfl⟩
end Go.Proofs.YthakldcfpndabaaGreatDoor
