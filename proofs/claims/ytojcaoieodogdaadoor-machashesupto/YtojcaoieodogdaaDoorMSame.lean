/- Comparing bytes: package mac's and the document's; whether a code is a text's. -/
import Derived.Test.YtojcaoieodogdaaDoorMMac
import Derived.Test.YtojcaoieodogdaaDoorRMac
import Derived.Test.YtojcaoieodogdaaDoorSlices
import Derived.Lib.Bytes
namespace Go.Proofs.YtojcaoieodogdaaDoor
open Go.RowKit

theorem i64_or_nat (a b : Nat) (ha : a < 9223372036854775808) (hb : b < 9223372036854775808) : bits .or .i64 (a : Int) (b : Int) = ((a ||| b : Nat) : Int) :=
  (bits_nat .i64 63 (by decide) (fun n h0 h1 => by rw [IntKind.wrap_i64]; omega) a b (by omega) (by omega)).2
theorem i64_xor_nat (a b : Nat) (ha : a < 9223372036854775808) (hb : b < 9223372036854775808) : bits .xor .i64 (a : Int) (b : Int) = ((a ^^^ b : Nat) : Int) := by
  have hp : 2 ^ 63 ≤ 2 ^ IntKind.i64.bits := Nat.pow_le_pow_right (by decide) (by decide)
  have ha' : a % 2 ^ IntKind.i64.bits = a := Nat.mod_eq_of_lt (Nat.lt_of_lt_of_le (by omega) hp)
  have hb' : b % 2 ^ IntKind.i64.bits = b := Nat.mod_eq_of_lt (Nat.lt_of_lt_of_le (by omega) hp)
  have hx : a ^^^ b < 2 ^ 63 := Nat.xor_lt_two_pow (by omega) (by omega)
  simp only [bits, BitVec.ofInt_natCast, BitVec.toNat_xor, BitVec.toNat_ofNat, ha', hb']
  rw [IntKind.wrap_i64]
  omega
theorem xor_zero_iff (a b : Nat) : a ^^^ b = 0 ↔ a = b := by
  constructor
  · intro h
    have h1 : a ^^^ (a ^^^ b) = b := by rw [← Nat.xor_assoc, Nat.xor_self, Nat.zero_xor]
    rw [h, Nat.xor_zero] at h1
    exact h1
  · rintro rfl
    exact Nat.xor_self a
theorem or_zero_iff (a b : Nat) : a ||| b = 0 ↔ a = 0 ∧ b = 0 := by
  constructor
  · intro h
    constructor
    · apply Nat.eq_of_testBit_eq
      intro i
      have := congrArg (Nat.testBit · i) h
      simp at this
      simp [this.1]
    · apply Nat.eq_of_testBit_eq
      intro i
      have := congrArg (Nat.testBit · i) h
      simp at this
      simp [this.2]
  · rintro ⟨rfl, rfl⟩
    rfl
theorem same_iff (A B : List Int) : (A.length = B.length ∧ ∀ j, j < max A.length B.length → A[j]?.getD 0 = B[j]?.getD 0) ↔ A = B := by
  constructor
  · rintro ⟨h1, h2⟩
    apply List.ext_getElem h1
    intro i hi hj
    have := h2 i (by omega)
    rw [List.getElem?_eq_getElem hi, List.getElem?_eq_getElem hj] at this
    exact this
  · rintro rfl
    exact ⟨rfl, fun _ _ => rfl⟩
theorem getD_bd {l : List Int} (h : ∀ x ∈ l, 0 ≤ x ∧ x < 256) (k : Nat) : 0 ≤ l[k]?.getD 0 ∧ l[k]?.getD 0 < 256 := by
  cases e : l[k]? with
  | none => simp
  | some x => exact h x (List.mem_of_getElem? e)
theorem ArgAt.cell_at {w : World} {pv : Option Addr} {N c : Nat} {bs : List Int} (h : ArgAt w (.slice pv N c) bs) (hN : bs.length = N) (k : Nat) (hk : k < N) : ∃ b o, pv = some ⟨b, o, none⟩ ∧ w.cell? ⟨b, o + k, none⟩ = some (.int .u8 (bs[k]?.getD 0)) := by
  rcases h with ⟨_, h2⟩ | ⟨b, o, cap, h1, h2, _, _, h5⟩
  · subst h2; simp at hN; omega
  · simp only [Value.slice.injEq] at h2
    refine ⟨b, o, h2.1, h5 k _ ?_⟩
    rw [List.getElem?_eq_getElem (by omega)]
    rfl
theorem at_any (pv : Option Addr) (N c : Nat) (A : List Int) (k : Nat) (w : World) (ha : ArgAt w (.slice pv N c) A) (hN : A.length = N) :
    Calls Tryd.prog 44 #[.slice pv N c, .int .i64 k] w fun e w' => e = .returned (.int .u8 (A[k]?.getD 0)) ∧ w' = w := by
  by_cases hlt : k < N
  · have hlt' : (k : Int) < N := by omega
    obtain ⟨b, o, rfl, c0⟩ := ha.cell_at hN k hlt
    obtain ⟨y, HY⟩ : ∃ y, Hid (A[k]?.getD 0 = y) := ⟨_, hid rfl⟩
    rw [HY.out] at c0
    clear ha
    go_enter Tryd.func44, Tryd.ntmps44
    go_wp2
    go_ret
    rw [HY.out]
    exact ⟨rfl, rfl⟩
  · have hlt' : ¬ (k : Int) < N := by omega
    have HE : Hid (A[k]?.getD 0 = 0) := by show _ = _; rw [List.getElem?_eq_none (by omega)]; rfl
    clear ha
    go_enter Tryd.func44, Tryd.ntmps44
    go_wp2
    go_ret
    exact ⟨rfl, rfl⟩
theorem wpList_max_as {w : World} {ops : Array Oper} {rest : List Oper} {o : Oper} {a : Act} {Q : Exit → Act → World → Prop} (hgd : o.guard = none) (x y : Operand) (ho : o.op = .call { callee := .builtin .max, args := #[x, y], argTypes := #[3, 3] }) (d e : Nat) (hx : a.eval x = .int .i64 d) (hy : a.eval y = .int .i64 e)
    (h : wpList Tryd.prog ops Q rest (a.put o.dst (.int .i64 (max d e : Nat))) w) : wpList Tryd.prog ops Q (o :: rest) a w := by
  have hr := run_max_int2 (P := Tryd.prog) (w := w) #[3, 3] o.type .i64 .i64 d e
  refine wpList_plain hgd fun K hK => ?_
  unfold Oper.wp
  simp only [execOp, ho, resolve, invoke, builtin]
  simp [hx, hy, hr, Result.andThen]
  by_cases hlt : d < e
  · rw [if_pos hlt]
    rw [show max d e = e by omega] at h
    exact hK _ _ h
  · rw [if_neg hlt]
    rw [show max d e = d by omega] at h
    exact hK _ _ h
set_option maxRecDepth 20000 in
set_option maxHeartbeats 2000000 in
theorem same_core (pa pb : Option Addr) (Na ca Nb cb : Nat) (A B : List Int) (w : World) (ha : ArgAt w (.slice pa Na ca) A) (hb : ArgAt w (.slice pb Nb cb) B) (la : A.length = Na) (lb : B.length = Nb) (bA : ∀ x ∈ A, 0 ≤ x ∧ x < 256) (bB : ∀ x ∈ B, 0 ≤ x ∧ x < 256) (hz : Na ≤ 140737488355328 ∧ Nb ≤ 140737488355328) :
    Calls Tryd.prog 22 #[.slice pa Na ca, .slice pb Nb cb] w fun e w' => e = .returned (.bool (decide (A = B))) ∧ w' = w := by
  have HX : Hid (ArgAt w (.slice pa Na ca) A ∧ ArgAt w (.slice pb Nb cb) B ∧ A.length = Na ∧ B.length = Nb ∧ (∀ x ∈ A, 0 ≤ x ∧ x < 256) ∧ (∀ x ∈ B, 0 ≤ x ∧ x < 256)) := ⟨ha, hb, la, lb, bA, bB⟩
  have hz1 : (Na : Int) ≤ 140737488355328 := by omega
  have hz2 : (Nb : Int) ≤ 140737488355328 := by omega
  have x0 := i64_xor_nat Na Nb (by omega) (by omega)
  obtain ⟨p0, hp0⟩ : ∃ p0, Na ^^^ Nb = p0 := ⟨_, rfl⟩
  have HP0 : Hid (Na ^^^ Nb = p0 ∧ p0 < 9223372036854775808) := ⟨hp0, by rw [← hp0]; exact Nat.lt_of_lt_of_le (Nat.xor_lt_two_pow (n := 48) (by omega) (by omega)) (by decide)⟩
  rw [hp0] at x0
  obtain ⟨M, hM⟩ : ∃ M, max Na Nb = M := ⟨_, rfl⟩
  have HM := hid hM
  have hMb : (M : Int) ≤ 140737488355328 := by omega
  clear ha hb la lb bA bB hz hp0 hM
  go_enter Tryd.func22, Tryd.ntmps22
  go_wp2_with (refine wpList_max_as rfl _ _ rfl Na Nb rfl rfl ?_; rw [HM.out])
  clear x0
  go_loop [5, 17] (fun v i => ∃ k p : Nat, k ≤ M ∧ v = .int .i64 p ∧ i = .int .i64 k ∧ p < 9223372036854775808 ∧ Hid (p = 0 ↔ Na = Nb ∧ ∀ j, j < k → A[j]?.getD 0 = B[j]?.getD 0)) (fun _ i => M - (intOf i).toNat)
  case atStart =>
    refine ⟨0, p0, Nat.zero_le _, rfl, rfl, HP0.out.2, ?_⟩
    show _ ↔ _
    rw [← HP0.out.1, xor_zero_iff]
    simp
  case round =>
    obtain ⟨k, p, hk, rfl, rfl, hp, HI⟩ := hrel
    by_cases hlt : k < M
    · have hlt' : (k : Int) < M := by omega
      obtain ⟨x, HXX⟩ : ∃ x, Hid (A[k]?.getD 0 = x) := ⟨_, hid rfl⟩
      obtain ⟨y, HYY⟩ : ∃ y, Hid (B[k]?.getD 0 = y) := ⟨_, hid rfl⟩
      have bx := getD_bd HX.out.2.2.2.2.1 k
      have by' := getD_bd HX.out.2.2.2.2.2 k
      rw [HXX.out] at bx
      rw [HYY.out] at by'
      have e1 := u8_xor x y bx.1 bx.2 by'.1 by'.2
      obtain ⟨z, hz⟩ : ∃ z, x.toNat ^^^ y.toNat = z := ⟨_, rfl⟩
      rw [hz] at e1
      have hzb : z < 256 := by rw [← hz]; exact Nat.xor_lt_two_pow (n := 8) (by omega) (by omega)
      have e2 := i64_or_nat p z hp (by omega)
      have hzb' : (z : Int) < 256 := by omega
      have HZ : Hid (z = 0 ↔ x = y) := by
        show _ ↔ _
        rw [← hz, xor_zero_iff]
        omega
      have HPZ : Hid ((p ||| z = 0 ↔ p = 0 ∧ z = 0) ∧ p ||| z < 9223372036854775808) := ⟨or_zero_iff p z, Nat.lt_of_lt_of_le (Nat.or_lt_two_pow (n := 63) (by omega) (by omega)) (by decide)⟩
      clear hz bx by'
      go_wp2_with (first
        | (go_at_call 44; (with_reducible refine (at_any pa Na ca A k _ HX.out.1 HX.out.2.2.1).mono ?_); rintro e w' ⟨rfl, rfl⟩; rw [HXX.out])
        | (go_at_call 44; (with_reducible refine (at_any pb Nb cb B k _ HX.out.2.1 HX.out.2.2.2.1).mono ?_); rintro e w' ⟨rfl, rfl⟩; rw [HYY.out]))
      go_round
      case rel =>
        refine ⟨k + 1, p ||| z, by omega, rfl, by go_num, HPZ.out.2, ?_⟩
        show _ ↔ _
        rw [HPZ.out.1, HI.out, HZ.out]
        constructor
        · rintro ⟨⟨h1, h2⟩, h3⟩
          refine ⟨h1, fun j hj => ?_⟩
          by_cases hjk : j = k
          · subst hjk
            rw [HXX.out, HYY.out]
            exact h3
          · exact h2 j (by omega)
        · rintro ⟨h1, h2⟩
          refine ⟨⟨h1, fun j hj => h2 j (by omega)⟩, ?_⟩
          have := h2 k (by omega)
          rwa [HXX.out, HYY.out] at this
      case measure => simp [intOf]; omega
    · have hlt' : ¬ (k : Int) < M := by omega
      have HE : Hid (p = 0 ↔ A = B) := by
        show _ ↔ _
        rw [HI.out, ← same_iff A B, HX.out.2.2.1, HX.out.2.2.2.1]
        have h1 := HM.out
        constructor
        · rintro ⟨h2, h3⟩
          exact ⟨h2, fun j hj => h3 j (by omega)⟩
        · rintro ⟨h2, h3⟩
          exact ⟨h2, fun j hj => h3 j (by omega)⟩
      clear HI
      by_cases hp0 : p = 0
      · have HD : Hid (decide (A = B) = true) := by show _ = _; simp [HE.out.1 hp0]
        subst hp0
        go_wp2
        go_ret
        rw [HD.out]
        exact ⟨rfl, rfl⟩
      · have HD : Hid (decide (A = B) = false) := by
          show _ = _
          simp
          exact fun h => hp0 (HE.out.2 h)
        have hp0' : ((p : Int) == 0) = false := by simp; omega
        go_wp2
        go_ret
        rw [HD.out]
        exact ⟨rfl, rfl⟩
theorem ArgAt.form {w : World} {v : Value} {bs : List Int} (h : ArgAt w v bs) : ∃ pv N c, v = .slice pv N c ∧ bs.length = N := by
  rcases h with ⟨rfl, rfl⟩ | ⟨b, o, cap, _, rfl, _⟩
  · exact ⟨_, _, _, rfl, rfl⟩
  · exact ⟨_, _, _, rfl, rfl⟩
theorem same_any {w : World} {v u : Value} {A B : List Int} (ha : ArgAt w v A) (hb : ArgAt w u B) (bA : ∀ x ∈ A, 0 ≤ x ∧ x < 256) (bB : ∀ x ∈ B, 0 ≤ x ∧ x < 256) (hz : A.length ≤ 140737488355328 ∧ B.length ≤ 140737488355328) :
    Calls Tryd.prog 22 #[v, u] w fun e w' => e = .returned (.bool (decide (A = B))) ∧ w' = w := by
  obtain ⟨pa, Na, ca, rfl, la⟩ := ha.form
  obtain ⟨pb, Nb, cb, rfl, lb⟩ := hb.form
  exact same_core pa pb Na ca Nb cb A B w ha hb la lb bA bB (by omega)
theorem strOfNums_inj {A B : List Int} (bA : ∀ x ∈ A, 0 ≤ x ∧ x < 256) (bB : ∀ x ∈ B, 0 ≤ x ∧ x < 256) (h : (strOfNums A).toList = (strOfNums B).toList) : A = B := by
  have e : (A.map fun n => UInt8.ofNat n.toNat) = B.map fun n => UInt8.ofNat n.toNat := by
    rw [Lib.strOfNums_toList, Lib.strOfNums_toList] at h
    exact h
  have hl : A.length = B.length := by simpa using congrArg List.length e
  apply List.ext_getElem hl
  intro i h1 h2
  have e2 : (A.map fun n => UInt8.ofNat n.toNat)[i]? = (B.map fun n => UInt8.ofNat n.toNat)[i]? := by rw [e]
  simp only [List.getElem?_map, List.getElem?_eq_getElem h1, List.getElem?_eq_getElem h2, Option.map_some, Option.some.injEq] at e2
  have x1 := bA _ (List.getElem_mem h1)
  have x2 := bB _ (List.getElem_mem h2)
  have e3 := congrArg UInt8.toNat e2
  simp only [UInt8.toNat_ofNat'] at e3
  omega
theorem refSame_any {w : World} {v u : Value} {A B : List Int} (ha : ArgAt w v A) (hb : ArgAt w u B) (bA : ∀ x ∈ A, 0 ≤ x ∧ x < 256) (bB : ∀ x ∈ B, 0 ≤ x ∧ x < 256) :
    Calls Tryd.prog 23 #[v, u] w fun e w' => e = .returned (.bool (decide (A = B))) ∧ w' = w := by
  have c1 := ha.conv
  have c2 := hb.conv
  by_cases h : A = B
  · subst h
    obtain ⟨S, HS⟩ : ∃ S, Hid (strOfNums A = S) := ⟨_, hid rfl⟩
    rw [HS.out] at c1 c2
    clear ha hb
    go_enter Tryd.func23, Tryd.ntmps23
    go_wp2
    go_ret
    exact ⟨by simp, rfl⟩
  · have hne : ((strOfNums A).toList == (strOfNums B).toList) = false := by simp; exact fun e => h (strOfNums_inj bA bB e)
    obtain ⟨S, HS⟩ : ∃ S, Hid (strOfNums A = S) := ⟨_, hid rfl⟩
    obtain ⟨T, HT⟩ : ∃ T, Hid (strOfNums B = T) := ⟨_, hid rfl⟩
    rw [HS.out] at c1 hne
    rw [HT.out] at c2 hne
    have HD : Hid (decide (A = B) = false) := by show _ = _; simp [h]
    clear ha hb
    go_enter Tryd.func23, Tryd.ntmps23
    go_wp2
    go_ret
    rw [HD.out]
    exact ⟨rfl, rfl⟩
end Go.Proofs.YtojcaoieodogdaaDoor
