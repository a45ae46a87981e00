/- The document's own: a head as bytes. -/
import Derived.Test.YtmcglcdpcblckabDoorHFine
import Derived.Test.YtmcglcdpcblckabDoorCTold
import Derived.Test.YtmcglcdpcblckabDoorPRead
import Derived.Maps.AppendAt
namespace Go.Proofs.YtmcglcdpcblckabDoor
open Go.RowKit

def headW (first : B) (fs : List (B × B)) : B := preW first fs ++ [10]
theorem headW_eq (first : B) (fs : List (B × B)) : headW first fs = (first ++ [13, 10]) ++ fs.flatMap fieldW ++ [13, 10] := by unfold headW preW; simp
theorem wpList_append_own_str {P : Program} {w : World} {ops : Array Oper} {rest : List Oper} {o : Oper} {a : Act} {Q : Exit → Act → World → Prop} (hgd : o.guard = none) (sl x : Operand) (t u : TypeId)
    (ho : o.op = .call { callee := .builtin .append, args := #[sl, x], argTypes := #[t, u] })
    (base : Nat) (e : TypeId) (i : TypeInfo) (ht : P.underlying t = some (.slice e)) (hu : P.underlying u = some .string) (hi : P.info? e = some i) (hz : i.zero = some (.int .u8 0))
    (hsize : i.size = 1) (hby : i.bytes = 1)
    (v : Value) (n : Nat) (xs : List Value) (hs : a.eval sl = v) (hown : w.ownsRow base e 1 v n xs) (s : ByteArray) (hx : a.eval x = .string s)
    (h63 : n + s.size ≤ maxLen) (hbytes : n + s.size ≤ 140737488355328) (hbase : base ≤ w.heap.size)
    (h : ∀ v' w', w'.ownsRow base e 1 v' (n + s.size) (xs ++ Lib.strCells s) → w.grownBy w' v.ownBlock → wpList P ops Q rest (a.put o.dst v') w') : wpList P ops Q (o :: rest) a w := by
  refine wpList_plain hgd fun K hK => ?_
  exact wp_append_own_string sl x t u ho base e i ht hu hi hz hsize hby v n xs hs hown s hx h63 hbytes hbase (fun v' w' h1 h2 => hK _ _ (h v' w' h1 h2))
theorem Own.app {w' : World} {base n : Nat} {v' : Value} {acc t : B} (hn : acc.length = n) (h : w'.ownsRow base 5 1 v' (n + (str t).size) (Lib.byteCells acc ++ Lib.strCells (str t))) : Own w' base v' (acc ++ t) := by
  unfold Own
  rw [cells_app, List.length_append, hn, ← strCells_str, ← str_size]
  exact h
theorem ret_sb {v : Value} {a b : Bool} (h : a = b) : Ending.returned (.tuple #[v, .bool a]) = .returned (.tuple #[v, .bool b]) := by rw [h]
theorem fieldW_len (f : B × B) : (fieldW f).length = f.1.length + f.2.length + 4 := by unfold fieldW; simp; omega
theorem flat_len : ∀ fs : List (B × B), (∀ f ∈ fs, f.1.length ≤ 1048576 ∧ f.2.length ≤ 1048576) → (fs.flatMap fieldW).length ≤ fs.length * 2097156
  | [], _ => by simp
  | f :: l, h => by
    have := flat_len l (fun x hx => h x (by simp [hx]))
    have := h f (by simp)
    simp only [List.flatMap_cons, List.length_append, fieldW_len, List.length_cons]
    omega
theorem take_flat {fs : List (B × B)} {i : Nat} {f : B × B} (h : fs[i]? = some f) : (fs.take (i + 1)).flatMap fieldW = (fs.take i).flatMap fieldW ++ fieldW f := by
  rw [List.take_add_one, h]; simp
set_option maxRecDepth 20000 in
set_option maxHeartbeats 8000000 in
theorem rhead_any (first : B) (fs : List (B × B)) (p : Option Addr) (n c : Nat) (hn : fs.length = n) (w : World) (hF : FAt w p fs) (hsz : ∀ f ∈ fs, f.1.length ≤ 1048576 ∧ f.2.length ≤ 1048576) (hnn : n ≤ 64) (hf1 : first.length ≤ 4194304) :
    Calls Tryd.prog 12 #[.string (str first), .slice p n c] w fun e w' => ∃ q m d, e = .returned (.tuple #[.slice q m d, .bool (decide (m ≤ 65536))]) ∧ m = (headW first fs).length ∧ Own w' w.heap.size (.slice q m d) (headW first fs) ∧ Below w.heap.size w w' := by
  have HF := hid hF
  have HSz := hid hsz
  have HN := hid hn
  have HL := hid (show ∀ i, ((fs.take i).flatMap fieldW).length ≤ 134217984 from fun i => by
    have h1 := flat_len (fs.take i) (fun x hx => hsz x (List.mem_of_mem_take hx))
    have h2 : (fs.take i).length ≤ n := by rw [← hn]; exact List.length_take_le' _ _
    have h3 : (fs.take i).length * 2097156 ≤ 64 * 2097156 := Nat.mul_le_mul_right _ (by omega)
    omega)
  have HF1 := hid (show str first ++ ⟨#[13, 10]⟩ = str (first ++ [13, 10]) from str_app first [13, 10])
  have hfs : (str first).size = first.length := str_size first
  obtain ⟨S, hS⟩ : ∃ S, str first = S := ⟨_, rfl⟩
  rw [hS] at HF1 hfs
  rw [hS]
  obtain ⟨i0, hi0, hz0, hz1, hz2⟩ := info_parts infoB
  clear hF hsz hn hS
  go_enter Tryd.func12, Tryd.ntmps12
  go_wp2_with (at_builtin; refine wpList_append_own_str rfl (.tmp 8) (.tmp 10) 25 9 rfl w.heap.size 5 i0 Tryd.underlying25 Tryd.underlying9 hi0 hz0 hz1 hz2 (.slice none 0 0) 0 [] (by go_simp) (⟨rfl, .inl ⟨rfl, rfl⟩⟩) (str (first ++ [13, 10])) (by go_simp; rw [HF1.out]) (by rw [str_size]; unfold maxLen; simp; omega) (by rw [str_size]; simp; omega) (Nat.le_refl _) ?_; intro v' w1 hown hgr; have HO1 := hid (show Own w1 w.heap.size v' ([] ++ (first ++ [13, 10])) from Own.app (acc := []) rfl hown); have HB1 := hid (below_grown hgr); rw [show 0 + (str (first ++ [13, 10])).size = first.length + 2 from (by rw [str_size]; simp)] at hown; obtain ⟨q0, c0, rfl⟩ := own_slice hown; clear hown hgr)
  obtain ⟨L0, hL0⟩ : ∃ L0, first.length + 2 = L0 := ⟨_, rfl⟩
  have HL0 := hid (show L0 = (first ++ [13, 10]).length from by rw [← hL0]; simp)
  rw [hL0] at HO1 ⊢
  rw [List.nil_append] at HO1
  clear hL0 HF1
  go_loopg [6, 7] (n + 1) (fun gk s6 s7 wr => ∃ (i : Nat) (q : Option Addr) (m d : Nat), s6 = .slice q m d ∧ s7 = .int .i64 (i : Int) ∧ i ≤ n ∧ gk = n - i + 1 ∧ m = ((first ++ [13, 10]) ++ (fs.take i).flatMap fieldW).length ∧ Own wr w.heap.size (.slice q m d) ((first ++ [13, 10]) ++ (fs.take i).flatMap fieldW) ∧ Below w.heap.size w wr)
  case atStart => exact ⟨0, q0, L0, c0, rfl, rfl, by omega, rfl, by rw [HL0.out]; simp, by simpa using HO1.out, HB1.out⟩
  case round =>
    obtain ⟨i, q, m, d, rfl, rfl, hin, rfl, hm, ho, hb⟩ := hrel
    have HB := hid hb
    have HO := hid ho
    have HM := hid hm
    have hml : m ≤ 150000000 := by
      have h1 := HL.out i
      rw [hm, List.length_append, List.length_append]
      simp only [List.length_cons, List.length_nil]
      omega
    obtain ⟨acc, hacc⟩ : ∃ acc, (first ++ [13, 10]) ++ (fs.take i).flatMap fieldW = acc := ⟨_, rfl⟩
    have HAcc := hid hacc
    rw [hacc] at HO HM
    clear hb ho hm hacc
    by_cases hlt : i < n
    · obtain ⟨f, hf⟩ : ∃ f, fs[i]? = some f := ⟨fs[i]'(by rw [HN.out]; exact hlt), List.getElem?_eq_getElem (by rw [HN.out]; exact hlt)⟩
      have HFi := hid hf
      obtain ⟨g, o, hp, k0w, k1w⟩ := HF.out i f hf
      subst hp
      have k0 := cell_keep HB.out k0w
      have k1 := cell_keep HB.out k1w
      obtain ⟨fz1, fz2⟩ := HSz.out f (List.mem_of_getElem? hf)
      have hltI : (i : Int) < (n : Int) := by omega
      have HFw := hid (show ((str f.1 ++ ⟨#[58, 32]⟩) ++ str f.2) ++ ⟨#[13, 10]⟩ = str (fieldW f) from by
        rw [show (⟨#[58, 32]⟩ : ByteArray) = str [58, 32] from rfl, show (⟨#[13, 10]⟩ : ByteArray) = str [13, 10] from rfl, str_app, str_app, str_app]
        exact congrArg str (by unfold fieldW; simp))
      have hs1 : (str f.1).size ≤ 1048576 := by rw [str_size]; exact fz1
      have hs2 : (str f.2).size ≤ 1048576 := by rw [str_size]; exact fz2
      have HFz := hid (show (str (fieldW f)).size ≤ 2097156 ∧ (fieldW f).length = (str (fieldW f)).size from by rw [str_size, fieldW_len]; omega)
      obtain ⟨N, hN⟩ : ∃ N, str f.1 = N := ⟨_, rfl⟩
      obtain ⟨V, hV⟩ : ∃ V, str f.2 = V := ⟨_, rfl⟩
      obtain ⟨Z, hZ⟩ : ∃ Z, str (fieldW f) = Z := ⟨_, rfl⟩
      have HZ := hid hZ
      rw [hN] at HFw k0 hs1 k0w
      rw [hV] at HFw k1 hs2 k1w
      have HKw := hid (And.intro k0w k1w)
      clear k0w k1w
      rw [hZ] at HFw HFz
      have hS0 : RdF wr.drew g (o + i * 2) N V := ⟨k0, k1⟩
      have hcat1 : (N ++ (⟨#[58, 32]⟩ : ByteArray)).size = N.size + 2 := by rw [ByteArray.size_append]; rfl
      have hcat2 : ((N ++ (⟨#[58, 32]⟩ : ByteArray)) ++ V).size = N.size + 2 + V.size := by rw [ByteArray.size_append, hcat1]
      clear hf hN hV hZ fz1 fz2
      go_wp2
      refine wp_region_noPanic ?_
      refine any_begin 16 (by kernel_rfl) (by kernel_rfl) ?_
      refine late_begin (fun U => RdF U g (o + i * 2) N V) (fun j => decide (15 ≤ j)) hS0 (fun hS => ?_)
      refine late_take (i := 0) (some 18) rfl rfl (by kernel_rfl) (by kernel_rfl) (by kernel_rfl) (by kernel_rfl) (by kernel_rfl) (fun _ _ _ h => h) (by rfl) (v := ?v0w) ?hy0w hS ?rest0w
      case hy0w => intro w0 hSw; obtain ⟨a0, a1⟩ := hSw; go_simp; try with_reducible rfl
      simp only [Act.put, List.setIfInBounds_toArray, List.set_cons_zero, List.set_cons_succ]
      refine late_take (i := 1) (some 19) rfl rfl (by kernel_rfl) (by kernel_rfl) (by kernel_rfl) (by kernel_rfl) (by kernel_rfl) (fun _ _ _ h => h) (by rfl) (v := ?v1w) ?hy1w hS ?rest1w
      case hy1w => intro w0 hSw; obtain ⟨a0, a1⟩ := hSw; go_simp; try with_reducible rfl
      simp only [Act.put, List.setIfInBounds_toArray, List.set_cons_zero, List.set_cons_succ]
      refine late_take (i := 2) (some 20) rfl rfl (by kernel_rfl) (by kernel_rfl) (by kernel_rfl) (by kernel_rfl) (by kernel_rfl) (fun _ _ _ h => h) (by rfl) (v := ?v2w) ?hy2w hS ?rest2w
      case hy2w => intro w0 hSw; obtain ⟨a0, a1⟩ := hSw; go_simp; try with_reducible rfl
      simp only [Act.put, List.setIfInBounds_toArray, List.set_cons_zero, List.set_cons_succ]
      refine late_take (i := 3) (some 21) rfl rfl (by kernel_rfl) (by kernel_rfl) (by kernel_rfl) (by kernel_rfl) (by kernel_rfl) (fun _ _ _ h => h) (by rfl) (v := ?v3w) ?hy3w hS ?rest3w
      case hy3w => intro w0 hSw; obtain ⟨a0, a1⟩ := hSw; go_simp; try with_reducible rfl
      simp only [Act.put, List.setIfInBounds_toArray, List.set_cons_zero, List.set_cons_succ]
      refine late_take (i := 4) (some 22) rfl rfl (by kernel_rfl) (by kernel_rfl) (by kernel_rfl) (by kernel_rfl) (by kernel_rfl) (fun _ _ _ h => h) (by rfl) (v := ?v4w) ?hy4w hS ?rest4w
      case hy4w => intro w0 hSw; obtain ⟨a0, a1⟩ := hSw; go_simp; try with_reducible rfl
      simp only [Act.put, List.setIfInBounds_toArray, List.set_cons_zero, List.set_cons_succ]
      refine late_take (i := 5) (some 23) rfl rfl (by kernel_rfl) (by kernel_rfl) (by kernel_rfl) (by kernel_rfl) (by kernel_rfl) (fun _ _ _ h => h) (by rfl) (v := ?v5w) ?hy5w hS ?rest5w
      case hy5w => intro w0 hSw; obtain ⟨a0, a1⟩ := hSw; go_simp; try with_reducible rfl
      simp only [Act.put, List.setIfInBounds_toArray, List.set_cons_zero, List.set_cons_succ]
      refine late_take (i := 6) (some 24) rfl rfl (by kernel_rfl) (by kernel_rfl) (by kernel_rfl) (by kernel_rfl) (by kernel_rfl) (fun _ _ _ h => h) (by rfl) (v := ?v6w) ?hy6w hS ?rest6w
      case hy6w => intro w0 hSw; obtain ⟨a0, a1⟩ := hSw; go_simp; rw [if_neg (by omega)]
      simp only [Act.put, List.setIfInBounds_toArray, List.set_cons_zero, List.set_cons_succ]
      refine late_take (i := 7) (some 25) rfl rfl (by kernel_rfl) (by kernel_rfl) (by kernel_rfl) (by kernel_rfl) (by kernel_rfl) (fun _ _ _ h => h) (by rfl) (v := ?v7w) ?hy7w hS ?rest7w
      case hy7w => intro w0 hSw; obtain ⟨a0, a1⟩ := hSw; go_simp; try with_reducible rfl
      simp only [Act.put, List.setIfInBounds_toArray, List.set_cons_zero, List.set_cons_succ]
      refine late_take (i := 8) (some 26) rfl rfl (by kernel_rfl) (by kernel_rfl) (by kernel_rfl) (by kernel_rfl) (by kernel_rfl) (fun _ _ _ h => h) (by rfl) (v := ?v8w) ?hy8w hS ?rest8w
      case hy8w => intro w0 hSw; obtain ⟨a0, a1⟩ := hSw; go_simp; try with_reducible rfl
      simp only [Act.put, List.setIfInBounds_toArray, List.set_cons_zero, List.set_cons_succ]
      refine late_take (i := 9) (some 27) rfl rfl (by kernel_rfl) (by kernel_rfl) (by kernel_rfl) (by kernel_rfl) (by kernel_rfl) (fun _ _ _ h => h) (by rfl) (v := ?v9w) ?hy9w hS ?rest9w
      case hy9w => intro w0 hSw; obtain ⟨a0, a1⟩ := hSw; go_simp; try with_reducible rfl
      simp only [Act.put, List.setIfInBounds_toArray, List.set_cons_zero, List.set_cons_succ]
      refine late_take (i := 10) (some 28) rfl rfl (by kernel_rfl) (by kernel_rfl) (by kernel_rfl) (by kernel_rfl) (by kernel_rfl) (fun _ _ _ h => h) (by rfl) (v := ?v10w) ?hy10w hS ?rest10w
      case hy10w => intro w0 hSw; obtain ⟨a0, a1⟩ := hSw; go_simp; try with_reducible rfl
      simp only [Act.put, List.setIfInBounds_toArray, List.set_cons_zero, List.set_cons_succ]
      refine late_take (i := 11) (some 29) rfl rfl (by kernel_rfl) (by kernel_rfl) (by kernel_rfl) (by kernel_rfl) (by kernel_rfl) (fun _ _ _ h => h) (by rfl) (v := ?v11w) ?hy11w hS ?rest11w
      case hy11w => intro w0 hSw; obtain ⟨a0, a1⟩ := hSw; go_simp; try with_reducible rfl
      simp only [Act.put, List.setIfInBounds_toArray, List.set_cons_zero, List.set_cons_succ]
      refine late_take (i := 12) (some 30) rfl rfl (by kernel_rfl) (by kernel_rfl) (by kernel_rfl) (by kernel_rfl) (by kernel_rfl) (fun _ _ _ h => h) (by rfl) (v := ?v12w) ?hy12w hS ?rest12w
      case hy12w => intro w0 hSw; obtain ⟨a0, a1⟩ := hSw; go_simp; rw [if_neg (by omega)]
      simp only [Act.put, List.setIfInBounds_toArray, List.set_cons_zero, List.set_cons_succ]
      refine late_take (i := 13) (some 31) rfl rfl (by kernel_rfl) (by kernel_rfl) (by kernel_rfl) (by kernel_rfl) (by kernel_rfl) (fun _ _ _ h => h) (by rfl) (v := ?v13w) ?hy13w hS ?rest13w
      case hy13w => intro w0 hSw; obtain ⟨a0, a1⟩ := hSw; go_simp; rw [if_neg (by omega)]
      simp only [Act.put, List.setIfInBounds_toArray, List.set_cons_zero, List.set_cons_succ]
      refine wpAnyD_one (i := 14) (by kernel_rfl) rfl (fun K hK => ?_)
      rw [if_pos (by rfl)]
      refine wp_append_own_string (.tmp 18) (.tmp 31) 25 9 rfl w.heap.size 5 i0 Tryd.underlying25 Tryd.underlying9 hi0 hz0 hz1 hz2 (.slice q m d) m (Lib.byteCells acc) (by go_simp) (by have := HO.out; unfold Own at this; rw [← HM.out] at this; exact this) Z (by go_simp; rw [HFw.out]) (by have := HFz.out.1; unfold maxLen; omega) (by have := HFz.out.1; omega) HB.out.size ?_
      intro v' w2 hown hgr
      have HO2 := hid (show Own w2 w.heap.size v' (acc ++ fieldW f) from Own.app HM.out.symm (by rw [HZ.out]; exact hown))
      have HB2 := hid (HB.out.trans (Own.below HO.out HB.out.size (show wr.grownBy w2 _ from ⟨hgr.os, hgr.tape, hgr.output, hgr.size, hgr.block⟩)))
      obtain ⟨q2, c2, rfl⟩ := own_slice hown
      clear hown hgr
      show K (Act.put _ (some 32) _) _
      refine hK _ _ ⟨fun _ => ⟨cell_keep HB2.out HKw.out.1, cell_keep HB2.out HKw.out.2⟩, ?_⟩
      clear hK K
      simp only [Act.put, List.setIfInBounds_toArray, List.set_cons_zero, List.set_cons_succ]
      refine late_over (by kernel_rfl) ?_
      refine any_take (i := 15) (some 6) rfl rfl (by kernel_rfl) (by kernel_rfl) (by kernel_rfl) (fun _ _ _ h => h) (by rfl) (v := ?v15w) ?hy15w ?rest15w
      case hy15w => intro w0; go_simp; try with_reducible rfl
      simp only [Act.put, List.setIfInBounds_toArray, List.set_cons_zero, List.set_cons_succ]
      refine any_done (by kernel_rfl) ?_ _
      refine NoPanic.normal ?_
      go_wp2
      go_roundg (n - (i + 1) + 1)
      case measure => omega
      case rel => exact ⟨i + 1, q2, m + Z.size, c2, rfl, by go_num, by omega, rfl, by rw [take_flat HFi.out, ← List.append_assoc, HAcc.out, List.length_append, HFz.out.2, ← HM.out], by rw [take_flat HFi.out, ← List.append_assoc, HAcc.out]; exact HO2.out, HB2.out⟩
    · obtain rfl : i = n := by omega
      have hltI : ¬ (i : Int) < (i : Int) := by omega
      have HA2 := hid (show acc ++ [13, 10] = headW first fs from by rw [headW_eq, ← HAcc.out, List.take_of_length_le (by rw [HN.out]; exact Nat.le_refl _)])
      clear hlt
      go_wp2_with (at_builtin; refine wpList_append_own_str rfl (.tmp 33) (.const (.string ⟨#[13, 10]⟩)) 25 9 rfl w.heap.size 5 i0 Tryd.underlying25 Tryd.underlying9 hi0 hz0 hz1 hz2 (.slice q m d) m (Lib.byteCells acc) (by go_simp) (by have := HO.out; unfold Own at this; rw [← HM.out] at this; exact this) (str [13, 10]) rfl (by rw [str_size]; unfold maxLen; simp; omega) (by rw [str_size]; simp; omega) HB.out.size ?_; intro v' w2 hown hgr; have HO2 := hid (show Own w2 w.heap.size v' (acc ++ [13, 10]) from Own.app HM.out.symm hown); have HB2 := hid (HB.out.trans (Own.below HO.out HB.out.size hgr)); obtain ⟨q2, c2, rfl⟩ := own_slice hown; rw [show (str [13, 10]).size = 2 from rfl] at HO2 ⊢; clear hown hgr)
      go_ret2
      rw [HA2.out] at HO2
      exact ⟨q2, m + 2, c2, ret_sb (by rw [Bool.eq_iff_iff]; simp; omega), by rw [← HA2.out, HM.out]; simp, HO2.out, HB2.out⟩
end Go.Proofs.YtmcglcdpcblckabDoor
