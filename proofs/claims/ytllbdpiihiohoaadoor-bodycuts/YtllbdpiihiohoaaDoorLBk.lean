/- BodyBack: bytes that are framed in any of the four ways are read as they were. -/
import Derived.Test.YtllbdpiihiohoaaDoorBBackP
import Derived.Test.YtllbdpiihiohoaaDoorBEnc
namespace Go.Proofs.YtllbdpiihiohoaaDoor
open Go.RowKit

theorem wpList_app_S {w : World} {ops : Array Oper} {rest : List Oper} {o : Oper} {a : Act} {Q : Exit → Act → World → Prop} (hgd : o.guard = none) (sl x : Operand)
    (ho : o.op = .call { callee := .builtin .append, args := #[sl, x], argTypes := #[24, 9] }) (base : Nat) (v : Value) (n k m : Nat) (acc s : B) (hs : a.eval sl = v) (hown : Own w base v acc) (hacc : acc.length = n) (hk : s.length = k) (hm : n + k = m) (hx : a.eval x = .string (str s)) (hl : m ≤ 140737488355328) (hbase : base ≤ w.heap.size)
    (h : ∀ q d w', Own w' base (.slice q m d) (acc ++ s) → w.grownBy w' v.ownBlock → wpList Tryd.prog ops Q rest (a.put o.dst (.slice q m d)) w') : wpList Tryd.prog ops Q (o :: rest) a w := by
  obtain ⟨i0, hi0, hz0, hz1, hz2⟩ := info_parts infoB
  have hz : (str s).size = k := by rw [str_size, hk]
  refine wpList_append_own_str hgd sl x 24 9 ho base 5 i0 Tryd.underlying24 Tryd.underlying9 hi0 hz0 hz1 hz2 v n (Lib.byteCells acc) hs (by have h8 := hown; unfold Own at h8; rw [hacc] at h8; exact h8) (str s) hx (by rw [hz]; unfold maxLen; omega) (by rw [hz]; omega) hbase ?_
  intro v' w' hown' hgr
  have ho3 := Own.app hacc hown'
  rw [hz, hm] at hown'
  obtain ⟨q, d, rfl⟩ := own_slice hown'
  exact h q d w' ho3 hgr
theorem cut_at (a : Int) {x : Nat} (h : 0 < x) : ∃ i : Nat, (IntKind.u64.wrap a).tmod (x : Int) = (i : Int) ∧ i < x := by
  have h0 : 0 ≤ IntKind.u64.wrap a := by rw [IntKind.wrap_u64]; omega
  rw [Int.tmod_eq_emod_of_nonneg h0]
  have h1 := Int.emod_nonneg (IntKind.u64.wrap a) (show (x : Int) ≠ 0 by omega)
  have h2 := Int.emod_lt_of_pos (IntKind.u64.wrap a) (show (0 : Int) < (x : Int) by omega)
  exact ⟨(IntKind.u64.wrap a % (x : Int)).toNat, by omega, by omega⟩
def bhd : B := [98, 101, 104, 105, 110, 100]
theorem bhd_len : bhd.length = 6 := rfl
theorem last_len : (lastC ++ bhd).length = 11 := rfl
theorem take_own {w : World} {b n c : Nat} {q : Option Addr} {l x : B} (h : Own w b (.slice q n c) (l ++ x)) : SlOk q n c (l ++ x) := ⟨slice_part h, h.cap, own_nil h, h.arg.plain⟩
set_option maxRecDepth 20000 in
set_option maxHeartbeats 16000000 in
theorem bback_z (b : B) (p : Option Addr) (n c : Nat) (cut : Int) (i : Nat) (hSl : SlOk p n c b) (hnn : n ≤ 1048576) (w : World) (ha : ArgAt w p b) (hE : EnvP w) (hn0 : n = 0) (hil : i ≤ n) :
    Calls Tryd.prog 4 #[.slice p n c, .int .i64 cut] w fun e w' => e = .returned (.bool true) ∧ Below w.heap.size w w' := by
  have hnI : ¬ (0 : Int) < (n : Int) := by omega
  obtain rfl : i = 0 := by omega
  obtain ⟨N6, h6⟩ : ∃ N6, n + 6 = N6 := ⟨_, rfl⟩
  have hn := hSl.len
  obtain ⟨qa, da, hqa, Pa⟩ := part_h hSl 0 hil
  obtain ⟨qb, db, hqb, Pb⟩ := part_l hSl 0 hil
  have hqa : ∀ W, (Instr.sliceAt 24 (.slice p n c) none (some (.int .i64 0)) none).run Tryd.prog W = .ok (.slice qa 0 da) W := hqa
  have hqb : ∀ W, (Instr.sliceAt 24 (.slice p n c) (some (.int .i64 0)) none none).run Tryd.prog W = .ok (.slice qb n db) W := hqb
  have Pb : Part p b qb n db 0 := Pb
  obtain ⟨b1, hb1⟩ : ∃ b1, (b.drop 0).take 0 = b1 := ⟨_, rfl⟩
  obtain ⟨b2, hb2⟩ : ∃ b2, (b.drop 0).take n = b2 := ⟨_, rfl⟩
  have hcat : b1 ++ b2 = b := by
    rw [← hb1, ← hb2]
    obtain rfl : b = [] := List.eq_nil_of_length_eq_zero (by omega)
    simp
  have hl1 : b1.length = 0 := by rw [← hb1, List.length_take, List.drop_zero]; omega
  have hl2 : b2.length = n := by rw [← hb2, List.length_take, List.length_drop]; omega
  have hl3 : (b1 ++ b2).length = n := by rw [hcat]; exact hn
  obtain ⟨e1, he1⟩ : ∃ e1, (encK b1).length = e1 := ⟨_, rfl⟩
  obtain ⟨e2, he2⟩ : ∃ e2, (encK b2).length = e2 := ⟨_, rfl⟩
  have hm1 : e1 ≤ 2000000 := by have := encK_max b1 (by omega); omega
  have hm2 : e2 ≤ 2000000 := by have := encK_max b2 (by omega); omega
  have HEa := hid (fun (W : World) (hb : Below w.heap.size w W) => (show Calls Tryd.prog 15 #[.slice qa 0 da] W (fun e w' => ∃ q d, e = .returned (.slice q e1 d) ∧ ArgAt w' q (encK b1) ∧ (q = none → d = 0) ∧ Below W.heap.size W w') from by have h9 := encd_any b1 qa 0 da hl1 (by omega) W (by have h8 := Pa.arg W (ha.next hb); rw [hb1] at h8; exact h8); rw [he1] at h9; exact h9))
  have HEb := hid (fun (W : World) (hb : Below w.heap.size w W) => (show Calls Tryd.prog 15 #[.slice qb n db] W (fun e w' => ∃ q d, e = .returned (.slice q e2 d) ∧ ArgAt w' q (encK b2) ∧ (q = none → d = 0) ∧ Below W.heap.size W w') from by have h9 := encd_any b2 qb n db hl2 (by omega) W (by have h8 := Pb.arg W (ha.next hb); rw [hb2] at h8; exact h8); rw [he2] at h9; exact h9))
  obtain ⟨u1, u2, u3⟩ := back_1 hn hnn bhd
  obtain ⟨v1, v2, v3⟩ := back_2 hl3 hnn bhd
  obtain ⟨x1, x2, x3⟩ := back_3 hn hnn
  have hE3 : (encK b1 ++ encK b2).length = e1 + e2 := by rw [List.length_append, he1, he2]
  rw [hE3] at v3
  rw [List.append_assoc] at v1 v2 v3
  rw [hcat] at v2
  have HWa := hid (fun (W : World) (q : Option Addr) (d : Nat) (ho : Own W w.heap.size (.slice q N6 d) (b ++ bhd)) (hb : Below w.heap.size w W) => whole_yes 1 (n : Int) (n : Int) (by omega) (b ++ bhd) q N6 d (slice_part ho) ho.cap (own_nil ho) (by omega) W ho.arg (hE.next hb) u1 u2 hn u3)
  have HWb := hid (fun (W : World) (q : Option Addr) (d base : Nat) (ho : Own W base (.slice q (e1 + e2 + 11) d) ((encK b1 ++ encK b2) ++ (lastC ++ bhd))) (hb : Below w.heap.size w W) => (show Calls Tryd.prog 14 #[.agg #[.int .i64 2, .int .i64 0], .int .i64 (n : Int), .slice q (e1 + e2 + 11) d] W (fun e w' => ∃ q d, e = .returned (.tuple #[.slice q n d, .int .i64 ((e1 : Int) + (e2 : Int) + 5), .nilIface]) ∧ Own w' W.heap.size (.slice q n d) b ∧ Below W.heap.size W w') from by have h9 := whole_yes 2 0 (n : Int) (by omega) ((encK b1 ++ encK b2) ++ (lastC ++ bhd)) q (e1 + e2 + 11) d (slice_part ho) ho.cap (own_nil ho) (by omega) W ho.arg (hE.next hb) v1 v2 hn v3; rw [show ((e1 + e2 + 5 : Nat) : Int) = (e1 : Int) + (e2 : Int) + 5 from by omega] at h9; exact h9))
  have HWc := hid (fun (W : World) (q : Option Addr) (d : Nat) (hA : ArgAt W q (((b ++ bhd).drop 0).take n)) (hc : n ≤ d) (hp : q = none → d = 0) (hb : Below w.heap.size w W) => whole_yes 3 0 (n : Int) (by omega) b q n d hn hc hp (by omega) W (by rw [List.drop_zero, ← hn, List.take_left] at hA; exact hA) (hE.next hb) x1 x2 hn x3)
  have HWd := hid (fun (W : World) (q : Option Addr) (d : Nat) {base : Nat} (ho : Own W base (.slice q N6 d) (b ++ bhd)) (hb : Below w.heap.size w W) => (show Calls Tryd.prog 14 #[.agg #[.int .i64 0, .int .i64 0], .int .i64 0, .slice q N6 d] W (fun e w' => ∃ q d, e = .returned (.tuple #[.slice q 0 d, .int .i64 0, .nilIface]) ∧ Own w' W.heap.size (.slice q 0 d) [] ∧ Below W.heap.size W w') from whole_yes 0 0 0 (by decide) (b ++ bhd) q N6 d (slice_part ho) ho.cap (own_nil ho) (by omega) W ho.arg (hE.next hb) (back_0 _).1 (back_0 _).2.1 rfl (back_0 _).2.2))
  have HCa := hid (fun (W : World) (hb : Below w.heap.size w W) => convA (d := c) (ha.next hb) hn)
  have HSu0 := hid (fun (W : World) (hb : Below w.heap.size w W) => sure_any W (hE.next hb))
  obtain ⟨T, hT⟩ : ∃ T, str b = T := ⟨_, rfl⟩
  rw [hT] at HCa
  have HT := hid hT
  have H6 := hid h6
  have HSl := hid hSl
  have HA := hid ha
  have HQa := hid hqa
  have HQb := hid hqb
  have HEl1 := hid he1
  have HEl2 := hid he2
  have HEl3 := hid hE3
  have HNle := hid (show n ≤ N6 from by omega)
  have h6l : N6 ≤ 2000000 := by omega
  clear hSl ha hE hqa Pa hqb Pb hb1 hb2 hcat hl1 hl2 hl3 he1 he2 u1 u2 u3 v1 v2 v3 x1 x2 x3 hE3 hT h6 hn hn0
  go_enter Tryd.func4, Tryd.ntmps4
  go_wp2_with (first | (at_builtin; refine wpList_copy rfl (.tmp 22) (.tmp 23) rfl (by go_simp) b p n c (by go_simp) HSl.out.len HA.out HSl.out.nil (by omega) ?_; intro q1 d1 w1 ho hb _ _; have HO1 := hid ho; have HB1 := hid hb; clear ho hb) | (at_builtin; refine wpList_app_S rfl (.tmp 24) (.const (.string ⟨#[98, 101, 104, 105, 110, 100]⟩)) rfl w.heap.size (.slice q1 n d1) n 6 N6 b bhd (by go_simp) HO1.out HSl.out.len bhd_len H6.out rfl (by omega) HB1.out.size ?_; intro q2 d2 w2 ho hg; have HB2 := hid (HB1.out.trans (Own.below HO1.out HB1.out.size hg)); have HO2 := hid ho; have HW1 := hid (HWa.out w2 q2 d2 ho HB2.out); clear ho hg HO1 HWa) | (go_at_call 14; (with_reducible refine HW1.out.mono ?_); rintro e w3 ⟨q3, d3, rfl, ho, hb⟩; have HX := hid ho; have HB3 := hid (below_out HB2.out hb); have HL := hid (HO2.out.keep hb); clear ho hb HW1 HO2) | (refine wpList_sl rfl (.tmp 48) none (some (.tmp 49)) rfl (.slice p n c) (.slice qa 0 da) none (some (.int .i64 0)) rfl rfl (by go_simp) HQa.out ?_; clear HQa; have HE1 := hid (HEa.out _ HB3.out)) | (go_at_call 15; (with_reducible refine HE1.out.mono ?_); rintro e w4 ⟨q4, d4, rfl, ha4, hn4, hb⟩; have HA4 := hid ha4; have HN4 := hid hn4; have HB4 := hid (below_out HB3.out hb); replace HX := hid (HX.out.keep hb); replace HL := hid (HL.out.keep hb); clear ha4 hn4 hb HE1) | (at_builtin; refine wpList_copy rfl (.tmp 47) (.tmp 51) rfl (by go_simp) (encK b1) q4 e1 d4 (by go_simp) HEl1.out HA4.out HN4.out (by omega) ?_; intro q5 d5 w5 ho hb _ _; have HC := hid ho; have HR := hid hb; clear ho hb HA4 HN4) | (refine wpList_sl rfl (.tmp 54) (some (.tmp 55)) none rfl (.slice p n c) (.slice qb n db) (some (.int .i64 0)) none rfl (by go_simp) rfl HQb.out ?_; clear HQb; have HE2 := hid (HEb.out _ (HB4.out.trans (HR.out.mono HB4.out.size)))) | (go_at_call 15; (with_reducible refine HE2.out.mono ?_); rintro e w6 ⟨q6, d6, rfl, ha6, hn6, hb⟩; have HA6 := hid ha6; have HN6 := hid hn6; replace HR := hid (below_out HR.out hb); replace HC := hid (HC.out.keep hb); clear ha6 hn6 hb HE2) | (at_builtin; refine wpList_append_any rfl (.tmp 53) (.tmp 57) rfl w4.heap.size (.slice q5 e1 d5) e1 (encK b1) (encK b2) (by go_simp) HC.out HEl1.out q6 e2 d6 (by go_simp) HEl2.out HA6.out HN6.out (by omega) HR.out.size ?_; intro q7 d7 w7 ho hg _; replace HR := hid (HR.out.trans (Own.below HC.out HR.out.size hg)); have HC7 := hid ho; clear ho hg HA6 HN6 HC) | (at_builtin; refine wpList_app_S rfl (.tmp 62) (.const (.string ⟨#[48, 13, 10, 13, 10, 98, 101, 104, 105, 110, 100]⟩)) rfl w4.heap.size (.slice q7 (e1 + e2) d7) (e1 + e2) 11 (e1 + e2 + 11) (encK b1 ++ encK b2) (lastC ++ bhd) (by go_simp) HC7.out HEl3.out last_len rfl rfl (by omega) HR.out.size ?_; intro q8 d8 w8 ho hg; replace HR := hid (HR.out.trans (Own.below HC7.out HR.out.size hg)); have HW2 := hid (HWb.out w8 q8 d8 w4.heap.size ho (HB4.out.trans (HR.out.mono HB4.out.size))); clear ho hg HC7 HWb) | (go_at_call 14; (with_reducible refine HW2.out.mono ?_); rintro e w9 ⟨q9, d9, rfl, ho, hb⟩; have HY := hid ho; replace HR := hid (below_out HR.out hb); obtain ⟨qc, dc, hq, P⟩ := part_h (take_own (HL.out.keep HR.out)) n HNle.out; have HQc := hid hq; have HW3 := hid (HWc.out w9 qc dc (P.arg w9 (HL.out.keep HR.out).arg) P.cap P.nil (HB4.out.trans (HR.out.mono HB4.out.size))); clear ho hb HW2 hq P HWc) | (refine wpList_sl rfl (.tmp 77) none (some (.tmp 79)) rfl (.slice q2 N6 d2) (.slice qc n dc) none (some (.int .i64 (n : Int))) rfl rfl rfl HQc.out ?_; clear HQc) | (go_at_call 14; (with_reducible refine HW3.out.mono ?_); rintro e w10 ⟨q10, d10, rfl, ho, hb⟩; have HZ := hid ho; replace HR := hid (below_out HR.out hb); replace HY := hid (HY.out.keep hb); have HW4 := hid (HWd.out w10 q2 d2 (HL.out.keep HR.out) (HB4.out.trans (HR.out.mono HB4.out.size))); clear ho hb HW3 HWd) | (go_at_call 14; (with_reducible refine HW4.out.mono ?_); rintro e w11 ⟨q11, d11, rfl, _, hb⟩; replace HR := hid (below_out HR.out hb); have HB11 := hid (HB4.out.trans (HR.out.mono HB4.out.size)); have c1 := conv_own (HX.out.keep HR.out); have c2 := conv_own (HY.out.keep hb); have c3 := conv_own (HZ.out.keep hb); have c4 := HCa.out w11 HB11.out; rw [HT.out] at c1 c2 c3; have HSu := hid (HSu0.out w11 HB11.out); clear hb HW4) | (go_at_call 8; (with_reducible refine HSu.out.mono ?_); rintro e w12 ⟨rfl, hb⟩; have HB12 := hid (below_out HB11.out hb); clear hb HSu))
  go_ret
  exact ⟨rfl, HB12.out⟩
set_option maxRecDepth 20000 in
set_option maxHeartbeats 16000000 in
theorem bback_s (b : B) (p : Option Addr) (n c : Nat) (cut : Int) (i : Nat) (hSl : SlOk p n c b) (hnn : n ≤ 1048576) (w : World) (ha : ArgAt w p b) (hE : EnvP w) (hn0 : 0 < n) (hi : (IntKind.u64.wrap cut).tmod (n : Int) = (i : Int)) (hil : i ≤ n) :
    Calls Tryd.prog 4 #[.slice p n c, .int .i64 cut] w fun e w' => e = .returned (.bool true) ∧ Below w.heap.size w w' := by
  have hnI : (0 : Int) < (n : Int) := by omega
  have HI : Value.int .i64 (wrap64 ((IntKind.u64.wrap cut).tmod (n : Int))) = .int .i64 (i : Int) := by rw [hi, wrap_small (i := i) (x := n) hil (by omega)]
  have hdz : ¬ IntKind.u64.wrap (n : Int) = 0 := by rw [wrapU (by omega)]; omega
  have hdz2 : (IntKind.u64.wrap (n : Int) == 0) = false := by simpa using hdz
  obtain ⟨N6, h6⟩ : ∃ N6, n + 6 = N6 := ⟨_, rfl⟩
  have hn := hSl.len
  obtain ⟨qa, da, hqa, Pa⟩ := part_h hSl i hil
  obtain ⟨qb, db, hqb, Pb⟩ := part_l hSl i hil
  obtain ⟨b1, hb1⟩ : ∃ b1, (b.drop 0).take i = b1 := ⟨_, rfl⟩
  obtain ⟨b2, hb2⟩ : ∃ b2, (b.drop i).take (n - i) = b2 := ⟨_, rfl⟩
  have hcat : b1 ++ b2 = b := by
    rw [← hb1, ← hb2]
    rw [List.drop_zero, List.take_of_length_le (l := b.drop i) (by rw [List.length_drop]; omega), List.take_append_drop]
  have hl1 : b1.length = i := by rw [← hb1, List.length_take, List.drop_zero]; omega
  have hl2 : b2.length = (n - i) := by rw [← hb2, List.length_take, List.length_drop]; omega
  have hl3 : (b1 ++ b2).length = n := by rw [hcat]; exact hn
  obtain ⟨e1, he1⟩ : ∃ e1, (encK b1).length = e1 := ⟨_, rfl⟩
  obtain ⟨e2, he2⟩ : ∃ e2, (encK b2).length = e2 := ⟨_, rfl⟩
  have hm1 : e1 ≤ 2000000 := by have := encK_max b1 (by omega); omega
  have hm2 : e2 ≤ 2000000 := by have := encK_max b2 (by omega); omega
  have HEa := hid (fun (W : World) (hb : Below w.heap.size w W) => (show Calls Tryd.prog 15 #[.slice qa i da] W (fun e w' => ∃ q d, e = .returned (.slice q e1 d) ∧ ArgAt w' q (encK b1) ∧ (q = none → d = 0) ∧ Below W.heap.size W w') from by have h9 := encd_any b1 qa i da hl1 (by omega) W (by have h8 := Pa.arg W (ha.next hb); rw [hb1] at h8; exact h8); rw [he1] at h9; exact h9))
  have HEb := hid (fun (W : World) (hb : Below w.heap.size w W) => (show Calls Tryd.prog 15 #[.slice qb (n - i) db] W (fun e w' => ∃ q d, e = .returned (.slice q e2 d) ∧ ArgAt w' q (encK b2) ∧ (q = none → d = 0) ∧ Below W.heap.size W w') from by have h9 := encd_any b2 qb (n - i) db hl2 (by omega) W (by have h8 := Pb.arg W (ha.next hb); rw [hb2] at h8; exact h8); rw [he2] at h9; exact h9))
  obtain ⟨u1, u2, u3⟩ := back_1 hn hnn bhd
  obtain ⟨v1, v2, v3⟩ := back_2 hl3 hnn bhd
  obtain ⟨x1, x2, x3⟩ := back_3 hn hnn
  have hE3 : (encK b1 ++ encK b2).length = e1 + e2 := by rw [List.length_append, he1, he2]
  rw [hE3] at v3
  rw [List.append_assoc] at v1 v2 v3
  rw [hcat] at v2
  have HWa := hid (fun (W : World) (q : Option Addr) (d : Nat) (ho : Own W w.heap.size (.slice q N6 d) (b ++ bhd)) (hb : Below w.heap.size w W) => whole_yes 1 (n : Int) (n : Int) (by omega) (b ++ bhd) q N6 d (slice_part ho) ho.cap (own_nil ho) (by omega) W ho.arg (hE.next hb) u1 u2 hn u3)
  have HWb := hid (fun (W : World) (q : Option Addr) (d base : Nat) (ho : Own W base (.slice q (e1 + e2 + 11) d) ((encK b1 ++ encK b2) ++ (lastC ++ bhd))) (hb : Below w.heap.size w W) => (show Calls Tryd.prog 14 #[.agg #[.int .i64 2, .int .i64 0], .int .i64 (n : Int), .slice q (e1 + e2 + 11) d] W (fun e w' => ∃ q d, e = .returned (.tuple #[.slice q n d, .int .i64 ((e1 : Int) + (e2 : Int) + 5), .nilIface]) ∧ Own w' W.heap.size (.slice q n d) b ∧ Below W.heap.size W w') from by have h9 := whole_yes 2 0 (n : Int) (by omega) ((encK b1 ++ encK b2) ++ (lastC ++ bhd)) q (e1 + e2 + 11) d (slice_part ho) ho.cap (own_nil ho) (by omega) W ho.arg (hE.next hb) v1 v2 hn v3; rw [show ((e1 + e2 + 5 : Nat) : Int) = (e1 : Int) + (e2 : Int) + 5 from by omega] at h9; exact h9))
  have HWc := hid (fun (W : World) (q : Option Addr) (d : Nat) (hA : ArgAt W q (((b ++ bhd).drop 0).take n)) (hc : n ≤ d) (hp : q = none → d = 0) (hb : Below w.heap.size w W) => whole_yes 3 0 (n : Int) (by omega) b q n d hn hc hp (by omega) W (by rw [List.drop_zero, ← hn, List.take_left] at hA; exact hA) (hE.next hb) x1 x2 hn x3)
  have HWd := hid (fun (W : World) (q : Option Addr) (d : Nat) {base : Nat} (ho : Own W base (.slice q N6 d) (b ++ bhd)) (hb : Below w.heap.size w W) => (show Calls Tryd.prog 14 #[.agg #[.int .i64 0, .int .i64 0], .int .i64 0, .slice q N6 d] W (fun e w' => ∃ q d, e = .returned (.tuple #[.slice q 0 d, .int .i64 0, .nilIface]) ∧ Own w' W.heap.size (.slice q 0 d) [] ∧ Below W.heap.size W w') from whole_yes 0 0 0 (by decide) (b ++ bhd) q N6 d (slice_part ho) ho.cap (own_nil ho) (by omega) W ho.arg (hE.next hb) (back_0 _).1 (back_0 _).2.1 rfl (back_0 _).2.2))
  have HCa := hid (fun (W : World) (hb : Below w.heap.size w W) => convA (d := c) (ha.next hb) hn)
  have HSu0 := hid (fun (W : World) (hb : Below w.heap.size w W) => sure_any W (hE.next hb))
  obtain ⟨T, hT⟩ : ∃ T, str b = T := ⟨_, rfl⟩
  rw [hT] at HCa
  have HT := hid hT
  have H6 := hid h6
  have HSl := hid hSl
  have HA := hid ha
  have HQa := hid hqa
  have HQb := hid hqb
  have HEl1 := hid he1
  have HEl2 := hid he2
  have HEl3 := hid hE3
  have HNle := hid (show n ≤ N6 from by omega)
  have h6l : N6 ≤ 2000000 := by omega
  clear hSl ha hE hqa Pa hqb Pb hb1 hb2 hcat hl1 hl2 hl3 he1 he2 u1 u2 u3 v1 v2 v3 x1 x2 x3 hE3 hT h6 hn hn0 hi
  go_enter Tryd.func4, Tryd.ntmps4
  go_wp2_with (first | (at_builtin; refine wpList_copy rfl (.tmp 22) (.tmp 23) rfl (by go_simp) b p n c (by go_simp) HSl.out.len HA.out HSl.out.nil (by omega) ?_; intro q1 d1 w1 ho hb _ _; have HO1 := hid ho; have HB1 := hid hb; clear ho hb) | (at_builtin; refine wpList_app_S rfl (.tmp 24) (.const (.string ⟨#[98, 101, 104, 105, 110, 100]⟩)) rfl w.heap.size (.slice q1 n d1) n 6 N6 b bhd (by go_simp) HO1.out HSl.out.len bhd_len H6.out rfl (by omega) HB1.out.size ?_; intro q2 d2 w2 ho hg; have HB2 := hid (HB1.out.trans (Own.below HO1.out HB1.out.size hg)); have HO2 := hid ho; have HW1 := hid (HWa.out w2 q2 d2 ho HB2.out); clear ho hg HO1 HWa) | (go_at_call 14; (with_reducible refine HW1.out.mono ?_); rintro e w3 ⟨q3, d3, rfl, ho, hb⟩; have HX := hid ho; have HB3 := hid (below_out HB2.out hb); have HL := hid (HO2.out.keep hb); clear ho hb HW1 HO2) | (refine wpList_sl rfl (.tmp 48) none (some (.tmp 49)) rfl (.slice p n c) (.slice qa i da) none (some (.int .i64 (i : Int))) rfl rfl (by go_simp) HQa.out ?_; clear HQa; have HE1 := hid (HEa.out _ HB3.out)) | (go_at_call 15; (with_reducible refine HE1.out.mono ?_); rintro e w4 ⟨q4, d4, rfl, ha4, hn4, hb⟩; have HA4 := hid ha4; have HN4 := hid hn4; have HB4 := hid (below_out HB3.out hb); replace HX := hid (HX.out.keep hb); replace HL := hid (HL.out.keep hb); clear ha4 hn4 hb HE1) | (at_builtin; refine wpList_copy rfl (.tmp 47) (.tmp 51) rfl (by go_simp) (encK b1) q4 e1 d4 (by go_simp) HEl1.out HA4.out HN4.out (by omega) ?_; intro q5 d5 w5 ho hb _ _; have HC := hid ho; have HR := hid hb; clear ho hb HA4 HN4) | (refine wpList_sl rfl (.tmp 54) (some (.tmp 55)) none rfl (.slice p n c) (.slice qb (n - i) db) (some (.int .i64 (i : Int))) none rfl (by go_simp) rfl HQb.out ?_; clear HQb; have HE2 := hid (HEb.out _ (HB4.out.trans (HR.out.mono HB4.out.size)))) | (go_at_call 15; (with_reducible refine HE2.out.mono ?_); rintro e w6 ⟨q6, d6, rfl, ha6, hn6, hb⟩; have HA6 := hid ha6; have HN6 := hid hn6; replace HR := hid (below_out HR.out hb); replace HC := hid (HC.out.keep hb); clear ha6 hn6 hb HE2) | (at_builtin; refine wpList_append_any rfl (.tmp 53) (.tmp 57) rfl w4.heap.size (.slice q5 e1 d5) e1 (encK b1) (encK b2) (by go_simp) HC.out HEl1.out q6 e2 d6 (by go_simp) HEl2.out HA6.out HN6.out (by omega) HR.out.size ?_; intro q7 d7 w7 ho hg _; replace HR := hid (HR.out.trans (Own.below HC.out HR.out.size hg)); have HC7 := hid ho; clear ho hg HA6 HN6 HC) | (at_builtin; refine wpList_app_S rfl (.tmp 62) (.const (.string ⟨#[48, 13, 10, 13, 10, 98, 101, 104, 105, 110, 100]⟩)) rfl w4.heap.size (.slice q7 (e1 + e2) d7) (e1 + e2) 11 (e1 + e2 + 11) (encK b1 ++ encK b2) (lastC ++ bhd) (by go_simp) HC7.out HEl3.out last_len rfl rfl (by omega) HR.out.size ?_; intro q8 d8 w8 ho hg; replace HR := hid (HR.out.trans (Own.below HC7.out HR.out.size hg)); have HW2 := hid (HWb.out w8 q8 d8 w4.heap.size ho (HB4.out.trans (HR.out.mono HB4.out.size))); clear ho hg HC7 HWb) | (go_at_call 14; (with_reducible refine HW2.out.mono ?_); rintro e w9 ⟨q9, d9, rfl, ho, hb⟩; have HY := hid ho; replace HR := hid (below_out HR.out hb); obtain ⟨qc, dc, hq, P⟩ := part_h (take_own (HL.out.keep HR.out)) n HNle.out; have HQc := hid hq; have HW3 := hid (HWc.out w9 qc dc (P.arg w9 (HL.out.keep HR.out).arg) P.cap P.nil (HB4.out.trans (HR.out.mono HB4.out.size))); clear ho hb HW2 hq P HWc) | (refine wpList_sl rfl (.tmp 77) none (some (.tmp 79)) rfl (.slice q2 N6 d2) (.slice qc n dc) none (some (.int .i64 (n : Int))) rfl rfl rfl HQc.out ?_; clear HQc) | (go_at_call 14; (with_reducible refine HW3.out.mono ?_); rintro e w10 ⟨q10, d10, rfl, ho, hb⟩; have HZ := hid ho; replace HR := hid (below_out HR.out hb); replace HY := hid (HY.out.keep hb); have HW4 := hid (HWd.out w10 q2 d2 (HL.out.keep HR.out) (HB4.out.trans (HR.out.mono HB4.out.size))); clear ho hb HW3 HWd) | (go_at_call 14; (with_reducible refine HW4.out.mono ?_); rintro e w11 ⟨q11, d11, rfl, _, hb⟩; replace HR := hid (below_out HR.out hb); have HB11 := hid (HB4.out.trans (HR.out.mono HB4.out.size)); have c1 := conv_own (HX.out.keep HR.out); have c2 := conv_own (HY.out.keep hb); have c3 := conv_own (HZ.out.keep hb); have c4 := HCa.out w11 HB11.out; rw [HT.out] at c1 c2 c3; have HSu := hid (HSu0.out w11 HB11.out); clear hb HW4) | (go_at_call 8; (with_reducible refine HSu.out.mono ?_); rintro e w12 ⟨rfl, hb⟩; have HB12 := hid (below_out HB11.out hb); clear hb HSu))
  go_ret
  exact ⟨rfl, HB12.out⟩
theorem bback_any (b : B) (p : Option Addr) (n c : Nat) (cut : Int) (hSl : SlOk p n c b) (hnn : n ≤ 1048576) (w : World) (ha : ArgAt w p b) (hE : EnvP w) :
    Calls Tryd.prog 4 #[.slice p n c, .int .i64 cut] w fun e w' => e = .returned (.bool true) ∧ Below w.heap.size w w' := by
  by_cases h0 : n = 0
  · exact bback_z b p n c cut 0 hSl hnn w ha hE h0 (by omega)
  · obtain ⟨i, hi, hlt⟩ := cut_at cut (x := n) (by omega)
    exact bback_s b p n c cut i hSl hnn w ha hE (by omega) hi (by omega)
end Go.Proofs.YtllbdpiihiohoaaDoor
