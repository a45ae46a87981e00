/- The program's texts of numbers, fields that may be written, the size of a head, and a head written. -/
import Derived.Test.YtnlmjlfoeodleaaGreatDoorWSmall
import Derived.Test.YtnlmjlfoeodleaaGreatDoorHWrite
import Derived.Laws.MakeOwn
import Derived.Lib.AppendIntMem
namespace Go.Proofs.YtnlmjlfoeodleaaGreatDoor
open Go.RowKit

/-- What the walks ask of the library's table of powers of ten. -/
def EnvP (w : World) : Prop := Lib.TabIs Tryz.prog w "internal/strconv.uint64pow10" .u64 Lib.pow10Tab
theorem EnvP.next {w w' : World} (h : EnvP w) (hb : Below w.heap.size w w') : EnvP w' := Lib.tabBelow_of_tabIs h _ hb
theorem toldL_dec : ∀ (f u : Nat) (l : List UInt8), u < 10 ^ (f + 1) → toldL 10 (f + 1) u l = Lib.decDigits u ++ l
  | 0, u, l, h => by
    have hu : u < 10 := by simpa using h
    rw [toldL, if_pos (by omega), Lib.decDigits_one hu, Nat.mod_eq_of_lt hu]
    simp [digC, hu]
  | f + 1, u, l, h => by
    rw [toldL]
    by_cases hu : u < 10
    · rw [if_pos (by omega), Lib.decDigits_one hu, Nat.mod_eq_of_lt hu]
      simp [digC, hu]
    · have h1 : u / 10 < 10 ^ (f + 1) := by
        rw [Nat.div_lt_iff_lt_mul (by omega)]
        rw [Nat.pow_succ] at h
        exact h
      have h3 : u % 10 < 10 := Nat.mod_lt _ (by omega)
      have h4 : Lib.decDigits u = Lib.decDigits (u / 10) ++ [UInt8.ofNat (48 + u % 10)] := by
        conv => lhs; rw [Lib.decDigits, dif_neg hu]
      rw [if_neg (by omega), toldL_dec f _ _ h1, h4]
      simp [digC, h3]
theorem told_dec (u : Nat) (h : u < 18446744073709551616) : told 10 u = Lib.decDigits u := by
  have := toldL_dec 63 u [] (Nat.lt_trans h (by decide))
  simpa [told] using this
theorem text_any (k : Nat) (hk : k < 9223372036854775808) (w : World) (hE : EnvP w) : Calls Tryz.prog 43 #[.int .i64 (k : Int)] w fun e w' => e = .returned (.string (str (told 10 k))) ∧ Below w.heap.size w w' := by
  have HC := hid (Tryz.strconv_Itoa (k : Int) (by omega) (by omega) w hE)
  have HT := hid (show (⟨(Lib.itoa (k : Int)).toArray⟩ : ByteArray) = str (told 10 k) from by rw [Lib.itoa_nonneg, told_dec k (by omega)])
  go_enter Tryz.func43, Tryz.ntmps43
  go_wp2_with (go_at_call 81; (with_reducible refine HC.out.mono ?_); rintro e w' ⟨rfl, k, os, rfl⟩)
  go_ret
  exact ⟨by rw [HT.out]; rfl, Lib.below_grow _ _ (Nat.le_refl _) _ _⟩
set_option maxRecDepth 20000 in
set_option maxHeartbeats 8000000 in
theorem mayfields_any (fs : List (B × B)) (p : Option Addr) (n c : Nat) (hn : fs.length = n) (w : World) (hF : FAt w p fs) (hsz : ∀ f ∈ fs, f.1.length ≤ 140737488355328 ∧ f.2.length ≤ 140737488355328) (hnn : n ≤ 140737488355328) :
    Calls Tryz.prog 122 #[.slice p n c] w fun e w' => e = .returned (.bool (fineB fs)) ∧ Below w.heap.size w w' := by
  obtain ⟨R, hR⟩ : ∃ R, fineB fs = R := ⟨_, rfl⟩
  have HR := hid hR
  have HF := hid hF
  have HSz := hid hsz
  have HN := hid hn
  rw [hR]
  clear hR hF hsz hn
  by_cases h64 : 64 < n
  · have h65 : (64 : Int) < (n : Int) := by omega
    have HV := hid (show R = false from by rw [← HR.out]; unfold fineB; rw [decide_eq_false (by rw [HN.out]; omega)]; rfl)
    go_enter Tryz.func122, Tryz.ntmps122
    go_wp2
    go_ret
    exact ⟨ret_bool HV.out.symm, Below.refl _ _⟩
  have h65 : ¬ (64 : Int) < (n : Int) := by omega
  go_enter Tryz.func122, Tryz.ntmps122
  go_wp2
  go_loopg [10] (n + 1) (fun gk s10 wr => ∃ i : Nat, s10 = .int .i64 (i : Int) ∧ i ≤ n ∧ gk = n - i + 1 ∧ Below w.heap.size w wr ∧ (fs.take i).all okF = true)
  case atStart => exact ⟨0, rfl, by omega, rfl, Below.refl _ _, by simp⟩
  case round =>
    obtain ⟨i, rfl, hin, rfl, hb, hall⟩ := hrel
    have HB := hid hb
    have HAll := hid hall
    clear hb hall
    by_cases hlt : i < n
    · obtain ⟨f, hf⟩ : ∃ f, fs[i]? = some f := ⟨fs[i]'(by rw [HN.out]; exact hlt), List.getElem?_eq_getElem (by rw [HN.out]; exact hlt)⟩
      have HFi := hid hf
      obtain ⟨g, o, hp, c0, c1⟩ := (HF.out.next HB.out) i f hf
      subst hp
      obtain ⟨fz1, fz2⟩ := HSz.out f (List.mem_of_getElem? hf)
      have hltI : (i : Int) < (n : Int) := by omega
      have HTk := hid (show ∀ w : World, _ from fun w => istoken_any (str f.1) w (by rw [str_size]; unfold maxLen; omega))
      have HVl := hid (show ∀ w : World, _ from fun w => isvalue_any f.2 (by omega) w)
      have HOk := hid (okF_eq f)
      obtain ⟨N, hN⟩ : ∃ N, str f.1 = N := ⟨_, rfl⟩
      obtain ⟨V, hV⟩ : ∃ V, str f.2 = V := ⟨_, rfl⟩
      obtain ⟨b, hb⟩ : ∃ b, valueB f.2 = b := ⟨_, rfl⟩
      rw [hN] at HTk HOk c0
      rw [hV] at HVl c1
      rw [hb] at HVl HOk
      obtain ⟨W1, hW1⟩ : ∃ W1, W1 = wr.alloc (.cells #[.string N, .string V] 88 (0, 0)) := ⟨_, rfl⟩
      have HB1 := hid (show Below w.heap.size w W1 from by rw [hW1]; exact HB.out.trans ((below_new wr _).mono HB.out.size))
      have HW1 := hid hW1
      clear hf hN hV hb fz1 fz2 hW1
      cases htk : isTok N with
      | false =>
        rw [htk] at HTk HOk
        have HV := hid (show R = false from by rw [← HR.out]; unfold fineB; rw [all_false HFi.out (by rw [HOk.out]; rfl)]; simp)
        clear htk
        go_wp2_with (go_at_call 83; (with_reducible refine (HTk.out _).mono ?_); rintro e w1 ⟨rfl, hw1⟩; subst w1)
        go_ret
        exact ⟨ret_bool HV.out.symm, by rw [← HW1.out]; exact HB1.out⟩
      | true =>
        rw [htk] at HTk HOk
        clear htk
        cases b with
        | false =>
          have HV := hid (show R = false from by rw [← HR.out]; unfold fineB; rw [all_false HFi.out (by rw [HOk.out]; rfl)]; simp)
          go_wp2_with (first | (go_at_call 83; (with_reducible refine (HTk.out _).mono ?_); rintro e w1 ⟨rfl, hw1⟩; subst w1) | (go_at_call 141; (rw [← HW1.out]); (with_reducible refine (HVl.out _).mono ?_); rintro e w1 ⟨rfl, hb1⟩; have HB2 := hid (HB1.out.trans (hb1.mono HB1.out.size)); clear hb1))
          go_ret
          exact ⟨ret_bool HV.out.symm, HB2.out⟩
        | true =>
          have HNx := hid (show (fs.take (i + 1)).all okF = true from by rw [List.take_add_one, HFi.out, List.all_append, HAll.out]; simp [HOk.out])
          go_wp2_with (first | (go_at_call 83; (with_reducible refine (HTk.out _).mono ?_); rintro e w1 ⟨rfl, hw1⟩; subst w1) | (go_at_call 141; (rw [← HW1.out]); (with_reducible refine (HVl.out _).mono ?_); rintro e w1 ⟨rfl, hb1⟩; have HB2 := hid (HB1.out.trans (hb1.mono HB1.out.size)); clear hb1))
          go_roundg (n - (i + 1) + 1)
          case measure => omega
          case rel => exact ⟨i + 1, by go_num, by omega, rfl, HB2.out, HNx.out⟩
    · obtain rfl : i = n := by omega
      have HV := hid (show R = true from by rw [← HR.out]; unfold fineB; have h9 := HAll.out; rw [List.take_of_length_le (by rw [HN.out]; exact Nat.le_refl _)] at h9; rw [h9, decide_eq_true (by rw [HN.out]; omega)]; rfl)
      go_wp2
      go_ret
      exact ⟨ret_bool HV.out.symm, HB.out⟩
theorem flat_len2 {K : Nat} : ∀ fs : List (B × B), (∀ f ∈ fs, f.1.length ≤ K ∧ f.2.length ≤ K) → (fs.flatMap fieldW).length ≤ fs.length * (2 * K + 4)
  | [], _ => by simp
  | x :: l, h => by
    have h1 := h x (by simp)
    have h2 := flat_len2 l (fun f hf => h f (by simp [hf]))
    rw [List.flatMap_cons, List.length_append, fieldW_len, List.length_cons, Nat.succ_mul]
    omega
set_option maxRecDepth 20000 in
set_option maxHeartbeats 8000000 in
theorem size_any (first : B) (fs : List (B × B)) (p : Option Addr) (n c : Nat) (hn : fs.length = n) (w : World) (hF : FAt w p fs) (hsz : ∀ f ∈ fs, f.1.length ≤ 140737488355328 ∧ f.2.length ≤ 140737488355328) (hnn : n ≤ 64) (hf1 : first.length ≤ 562949953421312) :
    Calls Tryz.prog 123 #[.string (str first), .slice p n c] w fun e w' => e = .returned (.int .i64 ((headW first fs).length : Int)) ∧ Below w.heap.size w w' := by
  have HF := hid hF
  have HSz := hid hsz
  have HN := hid hn
  have HL := hid (show ∀ i, ((fs.take i).flatMap fieldW).length ≤ 18014398509482240 from fun i => by
    have h1 := flat_len2 (fs.take i) (fun x hx => hsz x (List.mem_of_mem_take hx))
    have h2 : (fs.take i).length ≤ n := by rw [← hn]; exact List.length_take_le' _ _
    have h3 : (fs.take i).length * (2 * 140737488355328 + 4) ≤ 64 * (2 * 140737488355328 + 4) := Nat.mul_le_mul_right _ (by omega)
    omega)
  have hfs : (str first).size = first.length := str_size first
  obtain ⟨F0, hF0⟩ : ∃ F0, first.length = F0 := ⟨_, rfl⟩
  have HF0 := hid hF0
  rw [hF0] at hfs hf1
  obtain ⟨S, hS⟩ : ∃ S, str first = S := ⟨_, rfl⟩
  rw [hS] at hfs
  rw [hS]
  clear hF hsz hn hS hF0
  go_enter Tryz.func123, Tryz.ntmps123
  go_wp2
  go_loopg [5, 13] (n + 1) (fun gk s5 s13 wr => ∃ i m : Nat, s5 = .int .i64 (m : Int) ∧ s13 = .int .i64 (i : Int) ∧ i ≤ n ∧ gk = n - i + 1 ∧ m = F0 + 2 + ((fs.take i).flatMap fieldW).length ∧ Below w.heap.size w wr)
  case atStart => exact ⟨0, F0 + 2, by go_num, rfl, by omega, rfl, by simp, Below.refl _ _⟩
  case round =>
    obtain ⟨i, m, rfl, rfl, hin, rfl, hm, hb⟩ := hrel
    have HB := hid hb
    have HM := hid hm
    have hml : m ≤ 18577348462903556 := by have := HL.out i; omega
    clear hb hm
    by_cases hlt : i < n
    · obtain ⟨f, hf⟩ : ∃ f, fs[i]? = some f := ⟨fs[i]'(by rw [HN.out]; exact hlt), List.getElem?_eq_getElem (by rw [HN.out]; exact hlt)⟩
      have HFi := hid hf
      obtain ⟨g, o, hp, c0, c1⟩ := (HF.out.next HB.out) i f hf
      subst hp
      obtain ⟨fz1, fz2⟩ := HSz.out f (List.mem_of_getElem? hf)
      have hltI : (i : Int) < (n : Int) := by omega
      obtain ⟨a1, ha1⟩ : ∃ a, f.1.length = a := ⟨_, rfl⟩
      obtain ⟨a2, ha2⟩ : ∃ a, f.2.length = a := ⟨_, rfl⟩
      have hs1 : (str f.1).size = a1 := by rw [str_size]; exact ha1
      have hs2 : (str f.2).size = a2 := by rw [str_size]; exact ha2
      have HFw := hid (show (fieldW f).length = a1 + a2 + 4 from by rw [fieldW_len, ha1, ha2])
      rw [ha1] at fz1
      rw [ha2] at fz2
      obtain ⟨N, hN⟩ : ∃ N, str f.1 = N := ⟨_, rfl⟩
      obtain ⟨V, hV⟩ : ∃ V, str f.2 = V := ⟨_, rfl⟩
      rw [hN] at hs1 c0
      rw [hV] at hs2 c1
      obtain ⟨W1, hW1⟩ : ∃ W1, W1 = wr.alloc (.cells #[.string N, .string V] 88 (0, 0)) := ⟨_, rfl⟩
      have HB1 := hid (show Below w.heap.size w W1 from by rw [hW1]; exact HB.out.trans ((below_new wr _).mono HB.out.size))
      have HW1 := hid hW1
      clear hf hN hV ha1 ha2 hW1
      go_wp2
      go_roundg (n - (i + 1) + 1)
      case measure => omega
      case rel => exact ⟨i + 1, m + (a1 + a2 + 4), by (try simp only [hs1, hs2]); go_num, by go_num, by omega, rfl, by rw [take_flat HFi.out, List.length_append, HFw.out, HM.out]; omega, by rw [← HW1.out]; exact HB1.out⟩
    · obtain rfl : i = n := by omega
      have hltI : ¬ (i : Int) < (i : Int) := by omega
      have HV := hid (show (headW first fs).length = m + 2 from by rw [headW_eq, HM.out, List.take_of_length_le (by rw [HN.out]; exact Nat.le_refl _)]; simp [HF0.out]; omega)
      clear hlt
      go_wp2
      go_ret
      exact ⟨by rw [HV.out]; push_cast; rfl, HB.out⟩
theorem lt_of_own3 {w w' : World} {c : Nat} (h : Own w' w.heap.size (.slice (some ⟨w.heap.size, 0, none⟩) 0 c) []) : w.heap.size < w'.heap.size := by
  rcases h.2 with ⟨h1, h2⟩ | ⟨g, cap, cur, h1, h2, h3, h4⟩
  · cases h1
  · cases h1
    exact lt_of_heap h3
theorem own_base {w : World} {b b' : Nat} {v : Value} {acc : B} (h : Own w b v acc) (hb : b' ≤ b) : Own w b' v acc := by
  refine ⟨h.1, ?_⟩
  rcases h.2 with h1 | ⟨g, cap, cur, h1, h2, h3⟩
  · exact .inl h1
  · exact .inr ⟨g, cap, cur, h1, Nat.le_trans hb h2, h3⟩
def wrE (first : B) (fs : List (B × B)) : Nat := if fineB fs = true then (if (headW first fs).length ≤ 65536 then 0 else 22) else 21
theorem mk_row (w : World) (n : Nat) (hn : n ≤ 140737488355328) : ∃ w', (Instr.makeSlice 32 (.int .i64 0) (.int .i64 (n : Int))).run Tryz.prog w = .ok (.slice (some ⟨w.heap.size, 0, none⟩) 0 n) w' ∧ Own w' w.heap.size (.slice (some ⟨w.heap.size, 0, none⟩) 0 n) [] ∧ Below w.heap.size w w' := by
  obtain ⟨i0, hi0, hz0, hz1, hz2⟩ := info_parts infoB
  obtain ⟨w', h1, h2, h3⟩ := run_make_own (P := Tryz.prog) w w.heap.size 32 5 i0 _ 1 Tryz.underlying32 hi0 hz0 hz1 .i64 .i64 n (by rw [hz2]; omega) (by unfold maxLen; omega) (Nat.le_refl _)
  exact ⟨w', h1, h2, below_grown h3⟩
set_option maxRecDepth 20000 in
set_option maxHeartbeats 8000000 in
theorem wrote_no (first : B) (fs : List (B × B)) (p : Option Addr) (n c : Nat) (hn : fs.length = n) (w : World) (hF : FAt w p fs) (hsz : ∀ f ∈ fs, f.1.length ≤ 140737488355328 ∧ f.2.length ≤ 140737488355328) (hnn : n ≤ 140737488355328) (hf1 : first.length ≤ 562949953421312) (he : wrE first fs ≠ 0) :
    Calls Tryz.prog 86 #[.string (str first), .slice p n c] w fun e w' => e = .returned (.tuple #[.slice none 0 0, errOf (wrE first fs)]) ∧ Below w.heap.size w w' := by
  have HM := hid (mayfields_any fs p n c hn w hF hsz hnn)
  cases hfb : fineB fs with
  | false =>
    have HV := hid (show errOf (wrE first fs) = .iface 72 (.int .i64 21) from by unfold wrE; rw [hfb]; rfl)
    rw [hfb] at HM
    obtain ⟨S, hS⟩ : ∃ S, str first = S := ⟨_, rfl⟩
    rw [hS, HV.out]
    clear hF hsz hn hS hfb he
    go_enter Tryz.func86, Tryz.ntmps86
    go_wp2_with (go_at_call 122; (with_reducible refine HM.out.mono ?_); rintro e w1 ⟨rfl, hb⟩; have HB := hid hb; clear hb)
    go_ret2
    exact ⟨rfl, HB.out⟩
  | true =>
    have hn64 : fs.length ≤ 64 := by unfold fineB at hfb; rw [Bool.and_eq_true] at hfb; exact of_decide_eq_true hfb.1
    have HSi := hid (show ∀ W : World, Below w.heap.size w W → _ from fun W hb => size_any first fs p n c hn W (hF.next hb) hsz (by omega) hf1)
    have hbig : ¬ (headW first fs).length ≤ 65536 := fun h => he (by unfold wrE; rw [if_pos hfb, if_pos h])
    have HV := hid (show errOf (wrE first fs) = .iface 72 (.int .i64 22) from by unfold wrE; rw [if_pos hfb, if_neg hbig]; rfl)
    obtain ⟨L, hL⟩ : ∃ L : Int, ((headW first fs).length : Int) = L := ⟨_, rfl⟩
    have hbigI : decide ((65536 : Int) < L) = true := by rw [decide_eq_true_iff]; omega
    rw [hfb] at HM
    rw [hL] at HSi
    obtain ⟨S, hS⟩ : ∃ S, str first = S := ⟨_, rfl⟩
    rw [hS] at HSi
    rw [hS, HV.out]
    clear hF hsz hn hS hfb he hbig hL hn64
    go_enter Tryz.func86, Tryz.ntmps86
    go_wp2_with (first | (go_at_call 122; (with_reducible refine HM.out.mono ?_); rintro e w1 ⟨rfl, hb⟩; have HB := hid hb; clear hb) | (go_at_call 123; (with_reducible refine (HSi.out _ HB.out).mono ?_); rintro e w2 ⟨rfl, hb⟩; have HB2 := hid (below_out HB.out hb); clear hb))
    go_ret2
    exact ⟨rfl, HB2.out⟩
set_option maxRecDepth 20000 in
set_option maxHeartbeats 8000000 in
theorem wrote_yes (first : B) (fs : List (B × B)) (p : Option Addr) (n c : Nat) (hn : fs.length = n) (w : World) (hF : FAt w p fs) (hsz : ∀ f ∈ fs, f.1.length ≤ 140737488355328 ∧ f.2.length ≤ 140737488355328) (hnn : n ≤ 140737488355328) (hf1 : first.length ≤ 562949953421312) (he : wrE first fs = 0) :
    Calls Tryz.prog 86 #[.string (str first), .slice p n c] w fun e w' => ∃ q d, e = .returned (.tuple #[.slice q (headW first fs).length d, .nilIface]) ∧ Own w' w.heap.size (.slice q (headW first fs).length d) (headW first fs) ∧ Below w.heap.size w w' := by
  have HM := hid (mayfields_any fs p n c hn w hF hsz hnn)
  have hfb : fineB fs = true := by
    cases h : fineB fs with
    | true => rfl
    | false => unfold wrE at he; rw [h] at he; simp at he
  have hsm : (headW first fs).length ≤ 65536 := by
    rcases Nat.lt_or_ge 65536 (headW first fs).length with h | h
    · unfold wrE at he; rw [if_pos hfb, if_neg (by omega)] at he; simp at he
    · exact h
  have hn64 : fs.length ≤ 64 := by unfold fineB at hfb; rw [Bool.and_eq_true] at hfb; exact of_decide_eq_true hfb.1
  have HSi := hid (show ∀ W : World, Below w.heap.size w W → _ from fun W hb => size_any first fs p n c hn W (hF.next hb) hsz (by omega) hf1)
  have hfl : first.length ≤ 65536 := by have := congrArg List.length (headW_eq first fs); simp at this; omega
  have HLi := hid (show ∀ i, ((first ++ [13, 10]) ++ (fs.take i).flatMap fieldW).length ≤ 65536 from fun i => by
    have h1 := congrArg List.length (headW_eq first fs)
    have h2 : fs.flatMap fieldW = (fs.take i).flatMap fieldW ++ (fs.drop i).flatMap fieldW := by rw [← List.flatMap_append, List.take_append_drop]
    rw [h2] at h1
    simp at h1 ⊢
    omega)
  have HFl := hid (show ∀ i f, fs[i]? = some f → (fieldW f).length ≤ 65536 from fun i f hf => by
    have h1 := congrArg List.length (headW_eq first fs)
    have h2 : fs.flatMap fieldW = (fs.take (i + 1)).flatMap fieldW ++ (fs.drop (i + 1)).flatMap fieldW := by rw [← List.flatMap_append, List.take_append_drop]
    rw [h2, take_flat hf] at h1
    simp at h1
    omega)
  have HF := hid hF
  have HN := hid hn
  have HF1 := hid (show str first ++ ⟨#[13, 10]⟩ = str (first ++ [13, 10]) from str_app first [13, 10])
  have hfs : (str first).size = first.length := str_size first
  obtain ⟨H, hH⟩ : ∃ H, headW first fs = H := ⟨_, rfl⟩
  have HH := hid hH
  rw [hH] at HSi hsm
  rw [hH]
  obtain ⟨L, hL⟩ : ∃ L, H.length = L := ⟨_, rfl⟩
  have HL := hid hL
  rw [hL] at HSi hsm
  rw [hL]
  have hsmI : ¬ (65536 : Int) < (L : Int) := by omega
  have HMk := hid (fun W : World => mk_row W L (by omega))
  rw [hfb] at HM
  obtain ⟨F0, hF0⟩ : ∃ F0, first.length = F0 := ⟨_, rfl⟩
  have HF0 := hid hF0
  rw [hF0] at hfs hfl
  obtain ⟨S, hS⟩ : ∃ S, str first = S := ⟨_, rfl⟩
  rw [hS] at HSi HF1 hfs
  rw [hS]
  obtain ⟨i0, hi0, hz0, hz1, hz2⟩ := info_parts infoB
  clear hF hsz hn hS hfb he hn64 hF0 hf1 hH hL
  go_enter Tryz.func86, Tryz.ntmps86
  go_wp2_with (first | (go_at_call 122; (with_reducible refine HM.out.mono ?_); rintro e w1 ⟨rfl, hb⟩; have HB := hid hb; clear hb HM) | (go_at_call 123; (with_reducible refine (HSi.out _ HB.out).mono ?_); rintro e w2 ⟨rfl, hb⟩; have HB2 := hid (below_out HB.out hb); clear hb HSi; obtain ⟨W3, hmk, hown3, hbel3⟩ := HMk.out w2; have HO3 := hid hown3; have HB3 := hid (below_out HB2.out hbel3); have HZ3 := hid HB2.out.size; clear hown3 hbel3) | (at_builtin; clear hmk; refine wpList_append_own_str rfl (.tmp 22) (.tmp 24) 32 9 rfl w2.heap.size 5 i0 Tryz.underlying32 Tryz.underlying9 hi0 hz0 hz1 hz2 (.slice (some ⟨w2.heap.size, 0, none⟩) 0 L) 0 [] (by go_simp) (HO3.out) (str (first ++ [13, 10])) (by go_simp; rw [HF1.out]) (by rw [str_size]; have := HF0.out; unfold maxLen; simp; omega) (by rw [str_size]; have := HF0.out; simp; omega) (by exact Nat.le_of_lt (lt_of_own3 HO3.out)) ?_; intro v' w4 hown hgr; have HO4 := hid (show Own w4 w2.heap.size v' ([] ++ (first ++ [13, 10])) from Own.app (acc := []) rfl hown); have HB4 := hid (HB3.out.trans ((Own.below (HO3.out) (Nat.le_of_lt (lt_of_own3 HO3.out)) hgr).mono HZ3.out)); rw [show 0 + (str (first ++ [13, 10])).size = F0 + 2 from (by rw [str_size, ← HF0.out]; simp)] at hown; obtain ⟨q0, c0, rfl⟩ := own_slice hown; clear hown hgr))
  have HO5 := hid (own_base HO4.out HZ3.out)
  rw [List.nil_append] at HO5
  clear HO4 HO3 HB2 HB3 HF1
  obtain ⟨L0, hL0⟩ : ∃ L0, F0 + 2 = L0 := ⟨_, rfl⟩
  have HL0 := hid (show L0 = (first ++ [13, 10]).length from by rw [← hL0, ← HF0.out]; simp)
  rw [hL0] at HO5 ⊢
  clear hL0 HB HZ3
  go_loopg [7, 28] (n + 1) (fun gk s7 s28 wr => ∃ (i : Nat) (q : Option Addr) (m d : Nat), s7 = .slice q m d ∧ s28 = .int .i64 (i : Int) ∧ i ≤ n ∧ gk = n - i + 1 ∧ m = ((first ++ [13, 10]) ++ (fs.take i).flatMap fieldW).length ∧ Own wr w.heap.size (.slice q m d) ((first ++ [13, 10]) ++ (fs.take i).flatMap fieldW) ∧ Below w.heap.size w wr)
  case atStart => exact ⟨0, q0, L0, c0, rfl, rfl, by omega, rfl, by rw [HL0.out]; simp, by simpa using HO5.out, HB4.out⟩
  case round =>
    obtain ⟨i, q, m, d, rfl, rfl, hin, rfl, hm, ho, hb⟩ := hrel
    have HBr := hid hb
    have HO := hid ho
    have HMm := hid hm
    have hml : m ≤ 65536 := by rw [hm]; exact HLi.out i
    obtain ⟨acc, hacc⟩ : ∃ acc, (first ++ [13, 10]) ++ (fs.take i).flatMap fieldW = acc := ⟨_, rfl⟩
    have HAcc := hid hacc
    rw [hacc] at HO HMm
    clear hb ho hm hacc
    by_cases hlt : i < n
    · obtain ⟨f, hf⟩ : ∃ f, fs[i]? = some f := ⟨fs[i]'(by rw [HN.out]; exact hlt), List.getElem?_eq_getElem (by rw [HN.out]; exact hlt)⟩
      have HFi := hid hf
      obtain ⟨g, o, hp, c1, c2⟩ := (HF.out.next HBr.out) i f hf
      subst hp
      have hltI : (i : Int) < (n : Int) := by omega
      have hfz := HFl.out i f hf
      have HFw := hid (show ((str f.1 ++ ⟨#[58, 32]⟩) ++ str f.2) ++ ⟨#[13, 10]⟩ = str (fieldW f) from by
        rw [show (⟨#[58, 32]⟩ : ByteArray) = str [58, 32] from rfl, show (⟨#[13, 10]⟩ : ByteArray) = str [13, 10] from rfl, str_app, str_app, str_app]
        exact congrArg str (by unfold fieldW; simp))
      have hs1 : (str f.1).size ≤ 65536 := by rw [str_size]; rw [fieldW_len] at hfz; omega
      have hs2 : (str f.2).size ≤ 65536 := by rw [str_size]; rw [fieldW_len] at hfz; omega
      have HFz := hid (show (str (fieldW f)).size ≤ 65536 ∧ (fieldW f).length = (str (fieldW f)).size from by rw [str_size]; exact ⟨hfz, rfl⟩)
      obtain ⟨N, hN⟩ : ∃ N, str f.1 = N := ⟨_, rfl⟩
      obtain ⟨V, hV⟩ : ∃ V, str f.2 = V := ⟨_, rfl⟩
      obtain ⟨Z, hZ⟩ : ∃ Z, str (fieldW f) = Z := ⟨_, rfl⟩
      have HZ := hid hZ
      rw [hN] at HFw c1 hs1
      rw [hV] at HFw c2 hs2
      rw [hZ] at HFw HFz
      have hcat1 : (N ++ (⟨#[58, 32]⟩ : ByteArray)).size = N.size + 2 := by rw [ByteArray.size_append]; rfl
      have hcat2 : ((N ++ (⟨#[58, 32]⟩ : ByteArray)) ++ V).size = N.size + 2 + V.size := by rw [ByteArray.size_append, hcat1]
      obtain ⟨W1, hW1⟩ : ∃ W1, W1 = wr.alloc (.cells #[.string N, .string V] 88 (0, 0)) := ⟨_, rfl⟩
      have HB1 := hid (show Below w.heap.size w W1 from by rw [hW1]; exact HBr.out.trans ((below_new wr _).mono HBr.out.size))
      have HO1 := hid (show Own W1 w.heap.size (.slice q m d) acc from by rw [hW1]; exact HO.out.alloc _)
      have HW1 := hid hW1
      clear hf hN hV hZ hfz hW1
      go_wp2_with (at_builtin; (rw [← HW1.out]); refine wpList_append_own_str rfl (.tmp 32) (.tmp 39) 32 9 rfl w.heap.size 5 i0 Tryz.underlying32 Tryz.underlying9 hi0 hz0 hz1 hz2 (.slice q m d) m (Lib.byteCells acc) (by go_simp) (by have := HO1.out; unfold Own at this; rw [← HMm.out] at this; exact this) Z (by go_simp; rw [HFw.out]) (by have := HFz.out.1; unfold maxLen; omega) (by have := HFz.out.1; omega) HB1.out.size ?_; intro v' w2 hown hgr; have HO2 := hid (show Own w2 w.heap.size v' (acc ++ fieldW f) from Own.app HMm.out.symm (by rw [HZ.out]; exact hown)); have HB2 := hid (HB1.out.trans (Own.below HO1.out HB1.out.size hgr)); obtain ⟨q2, c2, rfl⟩ := own_slice hown; clear hown hgr)
      go_roundg (n - (i + 1) + 1)
      case measure => omega
      case rel => exact ⟨i + 1, q2, m + Z.size, c2, rfl, by go_num, by omega, rfl, by rw [take_flat HFi.out, ← List.append_assoc, HAcc.out, List.length_append, HFz.out.2, ← HMm.out], by rw [take_flat HFi.out, ← List.append_assoc, HAcc.out]; exact HO2.out, HB2.out⟩
    · obtain rfl : i = n := by omega
      have hltI : ¬ (i : Int) < (i : Int) := by omega
      have HA2 := hid (show acc ++ [13, 10] = H from by rw [← HH.out, headW_eq, ← HAcc.out, List.take_of_length_le (by rw [HN.out]; exact Nat.le_refl _)])
      clear hlt
      go_wp2_with (at_builtin; refine wpList_append_own_str rfl (.tmp 42) (.const (.string ⟨#[13, 10]⟩)) 32 9 rfl w.heap.size 5 i0 Tryz.underlying32 Tryz.underlying9 hi0 hz0 hz1 hz2 (.slice q m d) m (Lib.byteCells acc) (by go_simp) (by have := HO.out; unfold Own at this; rw [← HMm.out] at this; exact this) (str [13, 10]) rfl (by rw [str_size]; unfold maxLen; simp; omega) (by rw [str_size]; simp; omega) HBr.out.size ?_; intro v' w2 hown hgr; have HO2 := hid (show Own w2 w.heap.size v' (acc ++ [13, 10]) from Own.app HMm.out.symm hown); have HB2 := hid (HBr.out.trans (Own.below HO.out HBr.out.size hgr)); obtain ⟨q2, c2, rfl⟩ := own_slice hown; rw [show (str [13, 10]).size = 2 from rfl] at HO2 ⊢; clear hown hgr)
      go_ret2
      rw [HA2.out] at HO2
      have hm2 : m + 2 = L := by rw [← HL.out, ← HA2.out, HMm.out]; simp
      rw [hm2] at HO2
      exact ⟨q2, c2, by rw [hm2]; rfl, HO2.out, HB2.out⟩
end Go.Proofs.YtnlmjlfoeodleaaGreatDoor
