/- The document's reading: a place in a text, and the first error; its next byte; numbers. -/
import Derived.Test.YtkoeihliaandeaaGreatDoorRefV
import Derived.Test.YtkoeihliaandeaaGreatDoorRefU
import Derived.Test.YtkoeihliaandeaaGreatDoorFit
namespace Go.Proofs.YtkoeihliaandeaaGreatDoor
open Go.RowKit

theorem rd_size : (Tryz.prog.info? 49).map (·.size) = some 3 := by kernel_rfl
theorem results_rd1 {fn : Func} {p : Tmp} (h : fn.results = #[.cell p 49]) (tmps : Array Value) (w : World) (g : Nat) (t : TypeId) (cs : Array Value) (fr : Nat × Nat)
    (hp : tmps.getD p undef = .pointer (some ⟨g, 0, none⟩)) (hg : w.heap[g]? = some (.cells cs t fr)) (hs : cs.size = 3) : (results fn tmps).run Tryz.prog w = .ok (.agg cs) w := by
  exact results_cell_row h tmps w g t cs fr _ hp hg Tryz.underlying49 rfl (by rw [rd_size, hs])
theorem new_second (w : World) (o1 o2 : Obj) : ((w.alloc o1).alloc o2).heap[w.heap.size + 1]? = some o2 := by
  have := heap_alloc_new (w.alloc o1) o2
  simpa using this
set_option maxRecDepth 20000 in
set_option maxHeartbeats 1000000 in
theorem digit_any (X : Nat) (w : World) : Calls Tryz.prog 59 #[.int .u8 (X : Int)] w fun e w' => e = .returned (.bool (decide (48 ≤ X ∧ X ≤ 57))) ∧ w' = w := by
  by_cases h1 : 48 ≤ X
  · have a1 : (48 : Int) ≤ (X : Int) := by omega
    by_cases h2 : X ≤ 57
    · have HR := hid (show decide (48 ≤ X ∧ X ≤ 57) = true from decide_eq_true ⟨h1, h2⟩)
      have a2 : (X : Int) ≤ 57 := by omega
      rw [HR.out]
      clear h1 h2
      go_enter Tryz.func59, Tryz.ntmps59
      go_wp2
      go_ret
      exact ⟨rfl, rfl⟩
    · have HR := hid (show decide (48 ≤ X ∧ X ≤ 57) = false from decide_eq_false (by omega))
      have a2 : ¬ (X : Int) ≤ 57 := by omega
      rw [HR.out]
      clear h1 h2
      go_enter Tryz.func59, Tryz.ntmps59
      go_wp2
      go_ret
      exact ⟨rfl, rfl⟩
  · have HR := hid (show decide (48 ≤ X ∧ X ≤ 57) = false from decide_eq_false (by omega))
    have a1 : ¬ (48 : Int) ≤ (X : Int) := by omega
    rw [HR.out]
    clear h1
    go_enter Tryz.func59, Tryz.ntmps59
    go_wp2
    go_ret
    exact ⟨rfl, rfl⟩
set_option maxRecDepth 20000 in
set_option maxHeartbeats 1000000 in
theorem rfail_any (s : ByteArray) (p a k : Int) (w : World) : Calls Tryz.prog 20 #[.agg #[.string s, .int .i64 p, .int .i64 0], .int .i64 a, .int .i64 k] w fun e w' => e = .returned (.agg #[.string s, .int .i64 a, .int .i64 k]) ∧ Below w.heap.size w w' := by
  go_enter Tryz.func20, Tryz.ntmps20
  go_wp2
  (try simp only [Exit.inBlock, Exit.then])
  refine bodyPost_ret (results_rd1 rfl _ _ _ 49 #[.string s, .int .i64 a, .int .i64 k] (0, 0) rfl (new_second _ _ _) rfl) rfl ?_
  exact ⟨rfl, two_box _ _ _⟩
set_option maxRecDepth 20000 in
set_option maxHeartbeats 1000000 in
theorem rnext_any (s : ByteArray) (p : Nat) (k : Int) (hp : p ≤ s.size) (w : World) : Calls Tryz.prog 33 #[.agg #[.string s, .int .i64 (p : Int), .int .i64 k]] w fun e w' => e = .returned (.int .u8 ((nx (s.data.toList.drop p)).toNat : Int)) ∧ Below w.heap.size w w' := by
  by_cases hlt : p < s.size
  · obtain ⟨c, t, hd, _⟩ := drop_cons hlt
    obtain ⟨hi, hc⟩ := byte_at hd
    have HR := hid (show nx (s.data.toList.drop p) = c from by rw [hd]; rfl)
    have hb : ∀ h : p < s.size, (s[p]'h) = c := fun h => hc
    have b1 : (p : Int) < (s.size : Int) := by omega
    rw [HR.out]
    clear hd hc
    go_enter Tryz.func33, Tryz.ntmps33
    go_wp2
    go_ret
    exact ⟨rfl, below_new _ _⟩
  · have HR := hid (show nx (s.data.toList.drop p) = 0 from by
      rw [List.drop_of_length_le (show s.data.toList.length ≤ p from by show s.size ≤ p; omega)]
      rfl)
    have b1 : ¬ (p : Int) < (s.size : Int) := by omega
    rw [HR.out]
    clear hlt
    go_enter Tryz.func33, Tryz.ntmps33
    go_wp2
    go_ret
    exact ⟨rfl, below_new _ _⟩

theorem mag_step {n : Int} {c : UInt8} {t : B} {X : Nat} (hc : c.toNat = X) : magN n (c :: t) = if 48 ≤ X ∧ X ≤ 57 then (if n < (-9223372036854775808 + ((X : Int) - 48)).tdiv 10 then none else magN (n * 10 - ((X : Int) - 48)) t) else none := by
  simp only [magN]
  rw [hc]
/-- What a number's value is told in. -/
abbrev numCells (S : ByteArray) (r : Bool × Int) : Value := .agg #[.int .i64 3, .bool false, .string S, .int .i64 r.2, .bool r.1, .slice none 0 0, .slice none 0 0]
/-- A number's own block while it is read. -/
structure NumW (w W : World) (S : ByteArray) : Prop where
  res : W.heap[w.heap.size]? = some (.cells #[.int .i64 0, .bool false, .string ⟨#[]⟩, .int .i64 0, .bool false, .slice none 0 0, .slice none 0 0] 25 (0, 0))
  val : W.heap[w.heap.size + 1]? = some (.cells #[.int .i64 3, .bool false, .string S, .int .i64 0, .bool false, .slice none 0 0, .slice none 0 0] 25 (0, 0))
  low : Below w.heap.size w W
set_option maxRecDepth 20000 in
set_option maxHeartbeats 4000000 in
theorem refNumber_any (S : ByteArray) (h0 : 0 < S.size) (hs : S.size ≤ 64) (w : World) : Calls Tryz.prog 60 #[.string S] w fun e w' => e = .returned (numCells S (numN S.data.toList)) ∧ Below w.heap.size w w' := by
  obtain ⟨c, t, hd, ht⟩ := drop_cons h0
  obtain ⟨_, hc⟩ := byte_at hd
  obtain ⟨X, hX⟩ : ∃ X : Nat, c.toNat = X := ⟨_, rfl⟩
  have hb : ∀ h : 0 < S.size, (S[0]'h).toNat = X := fun h => by rw [hc, hX]
  rw [List.drop_zero] at hd
  obtain ⟨R, hR⟩ : ∃ R, numN S.data.toList = R := ⟨_, rfl⟩
  rw [hR]
  have hnx : nx S.data.toList = c := by rw [hd]; rfl
  obtain ⟨W0, hW0⟩ : ∃ W0, W0 = (w.alloc (.cells #[.int .i64 0, .bool false, .string ⟨#[]⟩, .int .i64 0, .bool false, .slice none 0 0, .slice none 0 0] 25 (0, 0))).alloc (.cells #[.int .i64 3, .bool false, .string S, .int .i64 0, .bool false, .slice none 0 0, .slice none 0 0] 25 (0, 0)) := ⟨_, rfl⟩
  have HW0 := hid hW0
  have HNW := hid (show NumW w W0 S from by obtain ⟨a, b, d⟩ := two_at hW0; exact ⟨a, b, d⟩)
  clear hW0
  by_cases h45 : X = 45
  · subst h45
    have HR2 := hid (show numNeg (magN 0 (S.data.toList.drop 1)) = R from by
      rw [← hR]
      unfold numN
      rw [if_pos (hnx.trans (UInt8.toNat_inj.1 (show c.toNat = (45 : UInt8).toNat from hX)))])
    clear hd ht hc hX hR hnx
    go_enter Tryz.func60, Tryz.ntmps60
    go_wp2
    go_loopg [5, 6] (S.size - 1 + 1) (fun gk s5 s6 wr => ∃ (i : Nat) (n : Int), i ≤ S.size ∧ gk = S.size - i + 1 ∧ s5 = .int .i64 n ∧ s6 = .int .i64 (i : Int) ∧ -9223372036854775808 ≤ n ∧ n ≤ 0 ∧ magN n (S.data.toList.drop i) = magN 0 (S.data.toList.drop 1) ∧ wr = W0)
    case atStart => exact ⟨1, 0, by omega, rfl, rfl, rfl, by omega, by omega, rfl, HW0.out.symm⟩
    case round =>
      obtain ⟨i, n, h2, rfl, rfl, rfl, h3, h4, hm, rfl⟩ := hrel
      have HM := hid hm
      clear hm
      obtain ⟨a0, a1, a2, a3, a4, a5, a6, az⟩ := seven HNW.out.res
      obtain ⟨b0, b1, b2, b3, b4, b5, b6, bz⟩ := seven HNW.out.val
      have az0 := az 0; have az1 := az 1; have az2 := az 2; have az3 := az 3; have az4 := az 4; have az5 := az 5; have az6 := az 6
      have bz3 := bz 3; have bz4 := bz 4
      clear az bz
      by_cases hin : i < S.size
      · have d1 : (i : Int) < (S.size : Int) := by omega
        obtain ⟨c2, t2, hd2, ht2⟩ := drop_cons hin
        obtain ⟨_, hc2⟩ := byte_at hd2
        obtain ⟨Y, hY⟩ : ∃ Y : Nat, c2.toNat = Y := ⟨_, rfl⟩
        have hby : ∀ h : i < S.size, (S[i]'h).toNat = Y := fun h => by rw [hc2, hY]
        have HStep := hid (show magN n (S.data.toList.drop i) = if 48 ≤ Y ∧ Y ≤ 57 then (if n < (-9223372036854775808 + ((Y : Int) - 48)).tdiv 10 then none else magN (n * 10 - ((Y : Int) - 48)) (S.data.toList.drop (i + 1))) else none from by rw [hd2, ht2]; exact mag_step hY)
        clear hd2 ht2 hc2 hY
        by_cases hdg : 48 ≤ Y ∧ Y ≤ 57
        · have HDg := hid (show decide (48 ≤ Y ∧ Y ≤ 57) = true from decide_eq_true hdg)
          obtain ⟨D, rfl⟩ : ∃ D : Nat, Y = D + 48 := ⟨Y - 48, by omega⟩
          have hD9 : D ≤ 9 := by omega
          have e1 : (((D + 48 : Nat) : Int) - 48) = (D : Int) := by omega
          have HS2 := hid (show magN n (S.data.toList.drop i) = (if n < (-9223372036854775808 + (D : Int)).tdiv 10 then none else magN (n * 10 - (D : Int)) (S.data.toList.drop (i + 1))) from by rw [HStep.out, if_pos hdg, e1])
          clear hdg HStep e1
          obtain ⟨Q, hQ⟩ : ∃ Q : Int, (-9223372036854775808 + (D : Int)).tdiv 10 = Q := ⟨_, rfl⟩
          have hQ2 : Q = -(((9223372036854775808 - D) / 10 : Nat) : Int) := by rw [← hQ]; exact tdiv_neg D hD9
          rw [hQ] at HS2
          have wq : wrap64 Q = Q := by unfold wrap64; omega
          by_cases hlt : n < Q
          · have HR3 := hid (show R = (false, 0) from by rw [← HR2.out, ← HM.out, HS2.out, if_pos hlt]; rfl)
            clear hQ2
            go_wp2_with (go_at_call 59; refine (digit_any (D + 48) _).mono ?_; rintro e w1 ⟨rfl, rfl⟩; rw [HDg.out])
            (try simp only [Exit.inBlock, Exit.then])
            refine bodyPost_ret (results_val1 rfl _ _ _ 25 _ (0, 0) rfl (seven_put (has_seven HNW.out.res) _ _ _ _ _ _ _) rfl) rfl ?_
            refine ⟨by rw [HR3.out], ?_⟩
            have h2 := HNW.out.low
            repeat refine Below.setCell ?_ (by first | exact Nat.le_refl _ | exact Nat.le_succ _) _
            exact h2
          · have HS3 := hid (show magN (n * 10 - (D : Int)) (S.data.toList.drop (i + 1)) = magN 0 (S.data.toList.drop 1) from by rw [← HM.out, HS2.out, if_neg hlt])
            have b3 : -9223372036854775808 ≤ n * 10 - (D : Int) := by omega
            have w3 : wrap64 (n * 10) = n * 10 := by unfold wrap64; omega
            have w4 : wrap64 (n * 10 - (D : Int)) = n * 10 - (D : Int) := by unfold wrap64; omega
            clear hQ2
            go_wp2_with (go_at_call 59; refine (digit_any (D + 48) _).mono ?_; rintro e w1 ⟨rfl, rfl⟩; rw [HDg.out])
            go_roundg (S.size - (i + 1) + 1)
            case measure => omega
            case rel => exact ⟨i + 1, n * 10 - (D : Int), by omega, rfl, rfl, by push_cast; rfl, by omega, by omega, HS3.out, rfl⟩
        · have HDg := hid (show decide (48 ≤ Y ∧ Y ≤ 57) = false from decide_eq_false hdg)
          have HR3 := hid (show R = (false, 0) from by rw [← HR2.out, ← HM.out, HStep.out, if_neg hdg]; rfl)
          clear hdg HStep
          go_wp2_with (go_at_call 59; refine (digit_any Y _).mono ?_; rintro e w1 ⟨rfl, rfl⟩; rw [HDg.out])
          (try simp only [Exit.inBlock, Exit.then])
          refine bodyPost_ret (results_val1 rfl _ _ _ 25 _ (0, 0) rfl (seven_put (has_seven HNW.out.res) _ _ _ _ _ _ _) rfl) rfl ?_
          refine ⟨by rw [HR3.out], ?_⟩
          have h2 := HNW.out.low
          repeat refine Below.setCell ?_ (by first | exact Nat.le_refl _ | exact Nat.le_succ _) _
          exact h2
      · have d1 : ¬ (i : Int) < (S.size : Int) := by omega
        have HEnd := hid (show R = numNeg (some n) from by
          rw [← HR2.out, ← HM.out, List.drop_of_length_le (show S.data.toList.length ≤ i from by show S.size ≤ i; omega)]
          rfl)
        have HE2 := hid (show R = (true, n) from HEnd.out)
        go_wp2
        (try simp only [Exit.inBlock, Exit.then])
        refine bodyPost_ret (results_val1 rfl _ _ _ 25 _ (0, 0) rfl (seven_put (has_seven ((Below.heap_setCell _ _ _ _ (Nat.ne_of_lt (Nat.lt_succ_self _))).trans ((Below.heap_setCell _ _ _ _ (Nat.ne_of_lt (Nat.lt_succ_self _))).trans HNW.out.res))) _ _ _ _ _ _ _) rfl) rfl ?_
        refine ⟨by rw [HE2.out], ?_⟩
        have h2 := HNW.out.low
        repeat refine Below.setCell ?_ (by first | exact Nat.le_refl _ | exact Nat.le_succ _) _
        exact h2
  · have HR2 := hid (show numPos (magN 0 (S.data.toList.drop 0)) = R from by
      rw [← hR]
      unfold numN
      rw [if_neg (fun e => h45 (by rw [← hX, ← hnx, e]; rfl)), List.drop_zero])
    have m45 : ((X : Int) == 45) = false := by simp only [beq_eq_false_iff_ne, ne_eq]; omega
    clear hd ht hc hX hR hnx h45
    go_enter Tryz.func60, Tryz.ntmps60
    go_wp2
    go_loopg [5, 6] (S.size + 1) (fun gk s5 s6 wr => ∃ (i : Nat) (n : Int), i ≤ S.size ∧ gk = S.size - i + 1 ∧ s5 = .int .i64 n ∧ s6 = .int .i64 (i : Int) ∧ -9223372036854775808 ≤ n ∧ n ≤ 0 ∧ magN n (S.data.toList.drop i) = magN 0 (S.data.toList.drop 0) ∧ wr = W0)
    case atStart => exact ⟨0, 0, by omega, rfl, rfl, rfl, by omega, by omega, rfl, HW0.out.symm⟩
    case round =>
      obtain ⟨i, n, h2, rfl, rfl, rfl, h3, h4, hm, rfl⟩ := hrel
      have HM := hid hm
      clear hm
      obtain ⟨a0, a1, a2, a3, a4, a5, a6, az⟩ := seven HNW.out.res
      obtain ⟨b0, b1, b2, b3, b4, b5, b6, bz⟩ := seven HNW.out.val
      have az0 := az 0; have az1 := az 1; have az2 := az 2; have az3 := az 3; have az4 := az 4; have az5 := az 5; have az6 := az 6
      have bz3 := bz 3; have bz4 := bz 4
      clear az bz
      by_cases hin : i < S.size
      · have d1 : (i : Int) < (S.size : Int) := by omega
        obtain ⟨c2, t2, hd2, ht2⟩ := drop_cons hin
        obtain ⟨_, hc2⟩ := byte_at hd2
        obtain ⟨Y, hY⟩ : ∃ Y : Nat, c2.toNat = Y := ⟨_, rfl⟩
        have hby : ∀ h : i < S.size, (S[i]'h).toNat = Y := fun h => by rw [hc2, hY]
        have HStep := hid (show magN n (S.data.toList.drop i) = if 48 ≤ Y ∧ Y ≤ 57 then (if n < (-9223372036854775808 + ((Y : Int) - 48)).tdiv 10 then none else magN (n * 10 - ((Y : Int) - 48)) (S.data.toList.drop (i + 1))) else none from by rw [hd2, ht2]; exact mag_step hY)
        clear hd2 ht2 hc2 hY
        by_cases hdg : 48 ≤ Y ∧ Y ≤ 57
        · have HDg := hid (show decide (48 ≤ Y ∧ Y ≤ 57) = true from decide_eq_true hdg)
          obtain ⟨D, rfl⟩ : ∃ D : Nat, Y = D + 48 := ⟨Y - 48, by omega⟩
          have hD9 : D ≤ 9 := by omega
          have e1 : (((D + 48 : Nat) : Int) - 48) = (D : Int) := by omega
          have HS2 := hid (show magN n (S.data.toList.drop i) = (if n < (-9223372036854775808 + (D : Int)).tdiv 10 then none else magN (n * 10 - (D : Int)) (S.data.toList.drop (i + 1))) from by rw [HStep.out, if_pos hdg, e1])
          clear hdg HStep e1
          obtain ⟨Q, hQ⟩ : ∃ Q : Int, (-9223372036854775808 + (D : Int)).tdiv 10 = Q := ⟨_, rfl⟩
          have hQ2 : Q = -(((9223372036854775808 - D) / 10 : Nat) : Int) := by rw [← hQ]; exact tdiv_neg D hD9
          rw [hQ] at HS2
          have wq : wrap64 Q = Q := by unfold wrap64; omega
          by_cases hlt : n < Q
          · have HR3 := hid (show R = (false, 0) from by rw [← HR2.out, ← HM.out, HS2.out, if_pos hlt]; rfl)
            clear hQ2
            go_wp2_with (go_at_call 59; refine (digit_any (D + 48) _).mono ?_; rintro e w1 ⟨rfl, rfl⟩; rw [HDg.out])
            (try simp only [Exit.inBlock, Exit.then])
            refine bodyPost_ret (results_val1 rfl _ _ _ 25 _ (0, 0) rfl (seven_put (has_seven HNW.out.res) _ _ _ _ _ _ _) rfl) rfl ?_
            refine ⟨by rw [HR3.out], ?_⟩
            have h2 := HNW.out.low
            repeat refine Below.setCell ?_ (by first | exact Nat.le_refl _ | exact Nat.le_succ _) _
            exact h2
          · have HS3 := hid (show magN (n * 10 - (D : Int)) (S.data.toList.drop (i + 1)) = magN 0 (S.data.toList.drop 0) from by rw [← HM.out, HS2.out, if_neg hlt])
            have b3 : -9223372036854775808 ≤ n * 10 - (D : Int) := by omega
            have w3 : wrap64 (n * 10) = n * 10 := by unfold wrap64; omega
            have w4 : wrap64 (n * 10 - (D : Int)) = n * 10 - (D : Int) := by unfold wrap64; omega
            clear hQ2
            go_wp2_with (go_at_call 59; refine (digit_any (D + 48) _).mono ?_; rintro e w1 ⟨rfl, rfl⟩; rw [HDg.out])
            go_roundg (S.size - (i + 1) + 1)
            case measure => omega
            case rel => exact ⟨i + 1, n * 10 - (D : Int), by omega, rfl, rfl, by push_cast; rfl, by omega, by omega, HS3.out, rfl⟩
        · have HDg := hid (show decide (48 ≤ Y ∧ Y ≤ 57) = false from decide_eq_false hdg)
          have HR3 := hid (show R = (false, 0) from by rw [← HR2.out, ← HM.out, HStep.out, if_neg hdg]; rfl)
          clear hdg HStep
          go_wp2_with (go_at_call 59; refine (digit_any Y _).mono ?_; rintro e w1 ⟨rfl, rfl⟩; rw [HDg.out])
          (try simp only [Exit.inBlock, Exit.then])
          refine bodyPost_ret (results_val1 rfl _ _ _ 25 _ (0, 0) rfl (seven_put (has_seven HNW.out.res) _ _ _ _ _ _ _) rfl) rfl ?_
          refine ⟨by rw [HR3.out], ?_⟩
          have h2 := HNW.out.low
          repeat refine Below.setCell ?_ (by first | exact Nat.le_refl _ | exact Nat.le_succ _) _
          exact h2
      · have d1 : ¬ (i : Int) < (S.size : Int) := by omega
        have HEnd := hid (show R = numPos (some n) from by
          rw [← HR2.out, ← HM.out, List.drop_of_length_le (show S.data.toList.length ≤ i from by show S.size ≤ i; omega)]
          rfl)
        by_cases hmin : n = -9223372036854775808
        · subst hmin
          have HE2 := hid (show R = (false, 0) from HEnd.out)
          go_wp2
          (try simp only [Exit.inBlock, Exit.then])
          refine bodyPost_ret (results_val1 rfl _ _ _ 25 _ (0, 0) rfl (seven_put (has_seven HNW.out.res) _ _ _ _ _ _ _) rfl) rfl ?_
          refine ⟨by rw [HE2.out], ?_⟩
          have h2 := HNW.out.low
          repeat refine Below.setCell ?_ (by first | exact Nat.le_refl _ | exact Nat.le_succ _) _
          exact h2
        · have HE2 := hid (show R = (true, -n) from by rw [HEnd.out]; simp only [numPos]; rw [if_neg hmin])
          have m1 : (n == -9223372036854775808) = false := by simpa using hmin
          have w5 : wrap64 (-n) = -n := by unfold wrap64; omega
          clear hmin
          go_wp2
          (try simp only [Exit.inBlock, Exit.then])
          refine bodyPost_ret (results_val1 rfl _ _ _ 25 _ (0, 0) rfl (seven_put (has_seven ((Below.heap_setCell _ _ _ _ (Nat.ne_of_lt (Nat.lt_succ_self _))).trans ((Below.heap_setCell _ _ _ _ (Nat.ne_of_lt (Nat.lt_succ_self _))).trans HNW.out.res))) _ _ _ _ _ _ _) rfl) rfl ?_
          refine ⟨by rw [HE2.out], ?_⟩
          have h2 := HNW.out.low
          repeat refine Below.setCell ?_ (by first | exact Nat.le_refl _ | exact Nat.le_succ _) _
          exact h2
end Go.Proofs.YtkoeihliaandeaaGreatDoor
