/- Split of the document. -/
import Derived.Test.YtkjgdfihhhdjaaaDoorSPub
import Derived.Test.YtkjgdfihhhdjaaaDoorCNum
namespace Go.Proofs.YtkjgdfihhhdjaaaDoor
open Go.RowKit

/-- What Split answers, the colon lying at k (k the length: there is none). -/
def splitAt (s : B) (k : Nat) : Value := match labsH false (s.take k) with
  | none => .tuple #[.string ⟨#[]⟩, .int .i64 0, .int .i64 3]
  | some _ => if k = s.length then .tuple #[.string (str (lowH (s.take k))), .int .i64 0, .int .i64 0]
    else if numE 10 65535 (str (s.drop (k + 1))) ≠ 0 ∨ numN 10 65535 (str (s.drop (k + 1))) < 1 ∨ s[k + 1]? = some 48 then .tuple #[.string ⟨#[]⟩, .int .i64 0, .int .i64 3]
    else .tuple #[.string (str (lowH (s.take k))), .int .i64 (numN 10 65535 (str (s.drop (k + 1)))), .int .i64 0]
theorem splitAt_eq (s : B) (k : Nat) : splitAt s k = match labsH false (s.take k) with
  | none => .tuple #[.string ⟨#[]⟩, .int .i64 0, .int .i64 3]
  | some _ => if k = s.length then .tuple #[.string (str (lowH (s.take k))), .int .i64 0, .int .i64 0]
    else if numE 10 65535 (str (s.drop (k + 1))) ≠ 0 ∨ numN 10 65535 (str (s.drop (k + 1))) < 1 ∨ s[k + 1]? = some 48 then .tuple #[.string ⟨#[]⟩, .int .i64 0, .int .i64 3]
    else .tuple #[.string (str (lowH (s.take k))), .int .i64 (numN 10 65535 (str (s.drop (k + 1)))), .int .i64 0] := rfl
def colonH (s : B) : Nat := (s.takeWhile (fun c => c != 58)).length
theorem colon_at : ∀ (s : B) (i : Nat), (∀ y ∈ s.take i, y ≠ 58) → s[i]? = some 58 → colonH s = i
  | [], i, _, h => by simp at h
  | x :: s, 0, _, h => by
    simp at h
    subst h
    rfl
  | x :: s, i + 1, ha, h => by
    have h1 : x ≠ 58 := ha x (by simp)
    have ih := colon_at s i (fun y hy => ha y (by simp [hy])) (by simpa using h)
    unfold colonH at ih ⊢
    rw [List.takeWhile_cons, if_pos (by simpa using h1), List.length_cons, ih]
theorem colon_end : ∀ (s : B), (∀ y ∈ s, y ≠ 58) → colonH s = s.length
  | [], _ => rfl
  | x :: s, ha => by
    have h1 : x ≠ 58 := ha x (by simp)
    have ih := colon_end s (fun y hy => ha y (by simp [hy]))
    unfold colonH at ih ⊢
    rw [List.takeWhile_cons, if_pos (by simpa using h1), List.length_cons, ih, List.length_cons]
theorem num_ne {s : ByteArray} {m : Int} (hm : 0 ≤ m) (h : numE 10 m s = 0) : 0 < s.size := by
  unfold numE at h
  rw [if_neg (by omega)] at h
  by_cases hd : digAll 10 s = false
  · rw [if_pos hd] at h; cases h
  · unfold digAll at hd
    by_cases h0 : s.size = 0
    · exact absurd (by rw [decide_eq_false (fun h => h h0), Bool.false_and]) hd
    · omega
theorem ext_dropH (s : B) (k n : Nat) (hn : s.length = n) : (str s).extract k n = str (s.drop k) := by
  rw [ext_str, List.take_of_length_le (by rw [List.length_drop]; omega)]
set_option maxRecDepth 20000 in
set_option maxHeartbeats 8000000 in
theorem rsplit_any (s : B) (hs : s.length ≤ 9223372036854775807) (w : World) : Calls Tryd.prog 11 #[.string (str s)] w fun e w' => e = .returned (splitAt s (colonH s)) ∧ Below w.heap.size w w' := by
  have HCan := hid (fun (k : Nat) (W : World) => rcanon_any (s.take k) (by rw [List.length_take]; omega) W)
  have HDec := hid (fun (k : Nat) (W : World) => rdecimal_any (str (s.drop k)) 65535 W (by rw [str_size, List.length_drop]; unfold maxLen; omega) (by omega) (by omega))
  obtain ⟨n, hn⟩ : ∃ n, s.length = n := ⟨_, rfl⟩
  have HExT := hid (take_ext s)
  have HExD := hid (fun k => ext_dropH s k n hn)
  obtain ⟨S, hS⟩ : ∃ S, str s = S := ⟨_, rfl⟩
  have hSn : S.size = n := by rw [← hS, str_size, hn]
  have HByte := hid (show ∀ (k : Nat) (h : k < s.length) (h2 : k < S.size), S[k]'h2 = s[k]'h from fun k h h2 => by subst hS; rfl)
  have HN := hid hn
  rw [hn] at hs
  rw [hS] at HExT HExD ⊢
  clear hS hn
  go_enter Tryd.func11, Tryd.ntmps11
  go_wp2
  go_loopg [5, 6] (n + 1) (fun gk s5 s6 wr => ∃ i : Nat, i ≤ n ∧ gk = n - i + 1 ∧ s5 = .int .i64 (n : Int) ∧ s6 = .int .i64 (i : Int) ∧ (∀ y ∈ s.take i, y ≠ 58) ∧ wr = w)
  case atStart => exact ⟨0, by omega, rfl, rfl, rfl, fun y hy => by simp at hy, rfl⟩
  case round =>
    obtain ⟨i, hi, rfl, rfl, rfl, hA, rfl⟩ := hrel
    have HA := hid hA
    clear hA
    by_cases hin : i < n
    · have h1 : i < s.length := by rw [HN.out]; exact hin
      have h2 : i < S.size := by omega
      have hB := HByte.out i h1 h2
      obtain ⟨c, hc⟩ : ∃ c, s[i]'h1 = c := ⟨_, rfl⟩
      have HC := hid (show s[i]? = some c from by rw [List.getElem?_eq_getElem h1, hc])
      rw [hc] at hB
      clear hc h1
      by_cases h58 : c = 58
      · subst h58
        have HK := hid (colon_at s i HA.out HC.out)
        have hex := HExT.out i
        have hexd := HExD.out (i + 1)
        have HCn := hid (HCan.out i)
        have HDc := hid (HDec.out (i + 1))
        have HP1 := hid (show 0 < (str (s.drop (i + 1))).size → i + 1 < s.length from fun h => by rw [str_size, List.length_drop] at h; omega)
        have HPb := hid (show ∀ (h : 0 < (str (s.drop (i + 1))).size), some ((str (s.drop (i + 1)))[0]'h) = s[i + 1]? from fun h => by
          have h9 : i + 1 < s.length := HP1.out h
          rw [List.getElem?_eq_getElem h9]
          show some ((s.drop (i + 1))[0]'_) = _
          rw [List.getElem_drop])
        have HSp := hid ((congrArg (splitAt s) HK.out).trans (splitAt_eq s i))
        have hni : ¬ i = s.length := by rw [HN.out]; omega
        have hni2 : ¬ (i : Int) = (n : Int) := by omega
        obtain ⟨T, hT⟩ : ∃ T, str (s.take i) = T := ⟨_, rfl⟩
        obtain ⟨Z, hZ⟩ : ∃ Z, str (lowH (s.take i)) = Z := ⟨_, rfl⟩
        obtain ⟨P, hP⟩ : ∃ P, str (s.drop (i + 1)) = P := ⟨_, rfl⟩
        rw [hT] at hex HCn
        rw [hP] at hexd HDc HSp HPb
        rw [hZ] at HCn HSp
        clear HCan HDec HExT HExD hT hZ hP HP1 HByte
        cases hl : labsH false (s.take i) with
        | none =>
          rw [hl] at HCn HSp
          go_wp2_with (go_at_call 9; (with_reducible refine (HCn.out _).mono ?_); rintro e w1 ⟨rfl, hb⟩; have HB1 := hid hb; clear hb)
          go_ret3
          exact ⟨by rw [HSp.out]; rfl, HB1.out⟩
        | some L =>
          rw [hl] at HCn HSp
          dsimp only at HSp HCn
          rw [if_neg hni] at HSp
          have HNe := hid (fun h => num_ne (s := P) (m := 65535) (by omega) h)
          obtain ⟨E, hE⟩ : ∃ E, numE 10 65535 P = E := ⟨_, rfl⟩
          obtain ⟨V, hV⟩ : ∃ V, numN 10 65535 P = V := ⟨_, rfl⟩
          rw [hE] at HDc HSp HNe
          rw [hV] at HDc HSp
          by_cases hE0 : E = 0
          · subst hE0
            have hPs := HNe.out rfl
            have hPd := HPb.out hPs
            obtain ⟨d, hd⟩ : ∃ d, P[0]'hPs = d := ⟨_, rfl⟩
            rw [hd] at hPd
            by_cases hV1 : V < 1
            · rw [if_pos (.inr (.inl hV1))] at HSp
              clear hPd hE hV
              go_wp2_with (first | (go_at_call 9; (with_reducible refine (HCn.out _).mono ?_); rintro e w1 ⟨rfl, hb⟩; have HB1 := hid hb; clear hb) | (go_at_call 35; (with_reducible refine (HDc.out _).mono ?_); rintro e w2 ⟨rfl, hw2⟩; subst hw2))
              go_ret3
              exact ⟨by rw [HSp.out]; rfl, HB1.out⟩
            · by_cases h48 : d = 48
              · subst h48
                rw [if_pos (.inr (.inr hPd.symm))] at HSp
                clear hPd hE hV
                go_wp2_with (first | (go_at_call 9; (with_reducible refine (HCn.out _).mono ?_); rintro e w1 ⟨rfl, hb⟩; have HB1 := hid hb; clear hb) | (go_at_call 35; (with_reducible refine (HDc.out _).mono ?_); rintro e w2 ⟨rfl, hw2⟩; subst hw2))
                go_ret3
                exact ⟨by rw [HSp.out]; rfl, HB1.out⟩
              · rw [if_neg (fun h => h.elim (fun h => h rfl) (fun h => h.elim hV1 (fun h => h48 (by rw [← hPd] at h; injection h))))] at HSp
                have h48n : ¬ d.toNat = 48 := fun h => h48 (UInt8.toNat_inj.1 (by show d.toNat = 48; omega))
                have h48b : (d == 48) = false := by simpa using h48
                have h48i : ((d.toNat : Int) == 48) = false := by simp; omega
                have h48' : ¬ (d.toNat : Int) = 48 := fun h => h48 (UInt8.toNat_inj.1 (by show d.toNat = 48; omega))
                clear hPd hE hV
                go_wp2_with (first | (go_at_call 9; (with_reducible refine (HCn.out _).mono ?_); rintro e w1 ⟨rfl, hb⟩; have HB1 := hid hb; clear hb) | (go_at_call 35; (with_reducible refine (HDc.out _).mono ?_); rintro e w2 ⟨rfl, hw2⟩; subst hw2))
                go_ret3
                exact ⟨by rw [HSp.out]; rfl, HB1.out⟩
          · rw [if_pos (.inl hE0)] at HSp
            clear hE hV
            go_wp2_with (first | (go_at_call 9; (with_reducible refine (HCn.out _).mono ?_); rintro e w1 ⟨rfl, hb⟩; have HB1 := hid hb; clear hb) | (go_at_call 35; (with_reducible refine (HDc.out _).mono ?_); rintro e w2 ⟨rfl, hw2⟩; subst hw2))
            go_ret3
            exact ⟨by rw [HSp.out]; rfl, HB1.out⟩
      · have h58' : ¬ (c.toNat : Int) = 58 := fun h => h58 (UInt8.toNat_inj.1 (by show c.toNat = 58; omega))
        have HA2 := hid (show ∀ y ∈ s.take (i + 1), y ≠ 58 from fun y hy => by
          rw [List.take_add_one, HC.out] at hy
          rcases List.mem_append.1 hy with hy | hy
          · exact HA.out y hy
          · simp at hy
            subst hy
            exact h58)
        go_wp2
        go_roundg (n - (i + 1) + 1)
        case measure => omega
        case rel => exact ⟨i + 1, by omega, rfl, rfl, by push_cast; go_num, HA2.out, rfl⟩
    · obtain rfl : n = i := by omega
      have hT9 : s.take n = s := List.take_of_length_le (by rw [HN.out]; exact Nat.le_refl _)
      have hA9 := HA.out
      rw [hT9] at hA9
      have HK := hid (show colonH s = n from by rw [colon_end s hA9, HN.out])
      have HSp := hid ((congrArg (splitAt s) HK.out).trans (splitAt_eq s n))
      rw [if_pos HN.out.symm] at HSp
      have hex := HExT.out n
      have HCn := hid (HCan.out n)
      obtain ⟨T, hT⟩ : ∃ T, str (s.take n) = T := ⟨_, rfl⟩
      obtain ⟨Z, hZ⟩ : ∃ Z, str (lowH (s.take n)) = Z := ⟨_, rfl⟩
      rw [hT] at hex HCn
      rw [hZ] at HCn HSp
      clear HCan HDec HExT HExD hT hZ HByte hT9 hA9
      cases hl : labsH false (s.take n) with
      | none =>
        rw [hl] at HCn HSp
        go_wp2_with (go_at_call 9; (with_reducible refine (HCn.out _).mono ?_); rintro e w1 ⟨rfl, hb⟩; have HB1 := hid hb; clear hb)
        go_ret3
        exact ⟨by rw [HSp.out]; rfl, HB1.out⟩
      | some L =>
        rw [hl] at HCn HSp
        go_wp2_with (go_at_call 9; (with_reducible refine (HCn.out _).mono ?_); rintro e w1 ⟨rfl, hb⟩; have HB1 := hid hb; clear hb)
        go_ret3
        exact ⟨by rw [HSp.out]; rfl, HB1.out⟩
end Go.Proofs.YtkjgdfihhhdjaaaDoor
