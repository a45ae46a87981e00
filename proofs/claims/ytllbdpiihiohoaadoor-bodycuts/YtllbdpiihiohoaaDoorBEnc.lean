/- The document's Encode of a chunk. -/
import Derived.Test.YtllbdpiihiohoaaDoorBMem
import Derived.Test.YtllbdpiihiohoaaDoorKApp
namespace Go.Proofs.YtllbdpiihiohoaaDoor
open Go.RowKit

/-- A text as bytes of its own, that can be written on. -/
theorem bytes_ofM (s : B) (w : World) (hs : s.length ≤ 140737488355328) : ∃ v W, (convert 9 24 (.string (str s))).run Tryd.prog w = .ok v W ∧ OwnM W w.heap.size v s ∧ Below w.heap.size w W := by
  have h := run_bytes_of_string (P := Tryd.prog) w 9 24 5 (str s) Tryd.underlying9 Tryd.underlying24 Tryd.underlying5
  rw [str_size] at h
  have hge := grownCap_ge w s.length 0 5
  have hcs : (bytesRow (str s) (grownCap w s.length 0 5)).size = grownCap w s.length 0 5 := by
    have hsz : (str s).size = s.length := str_size s
    unfold bytesRow
    simp
    omega
  refine ⟨_, _, h, ⟨w.heap.size, grownCap w s.length 0 5, bytesRow (str s) (grownCap w s.length 0 5), _, rfl, Nat.le_refl _, heap_alloc_new w.drew _, fun j hj hf => ?_, hge, grownCap_le_maxLen w s.length 0 5 (by unfold maxLen; omega), hcs, ?_⟩, (Below.refl _ w).drew.alloc (Nat.le_refl _) _⟩
  · have h9 : (bytesRow (str s) (grownCap w s.length 0 5)).size ≤ j := hf.1
    omega
  · unfold bytesRow
    have e : (Lib.byteCells s).length = s.length := by simp [Lib.byteCells]
    rw [← e]
    simp [Lib.byteCells]
theorem appendMB (w : World) (base : Nat) (v : Value) (acc : B) (hown : OwnM w base v acc) (s : B) (ad : Addr) (n c : Nat) (hn : s.length = n) (hnews : ∀ j u, (Lib.byteCells s)[j]? = some u → w.cell? (ad.add j) = some u) (ty : TypeId) (hbytes : acc.length + n ≤ 140737488355328) (hbase : base ≤ w.heap.size) :
    ∃ v' w', (Builtin.append_ #[24, 24] ty #[v, .slice (some ad) n c]).run Tryd.prog w = .ok v' w' ∧ OwnM w' base v' (acc ++ s) ∧ w.grownBy w' v.ownBlock := by
  obtain ⟨i0, hi0, hz0, hz1, hz2⟩ := info_parts infoB
  obtain ⟨g, cap, cur, fz, rfl, hbg, hg, hfz, hnc, hcm, hcs, htake⟩ := hown
  have hxl : (Lib.byteCells acc).length = acc.length := by simp [Lib.byteCells]
  have hsl : (Lib.byteCells s).length = n := by simp [Lib.byteCells, hn]
  by_cases hroom : acc.length + n ≤ cap
  · have hf := run_firstCells_some (P := Tryd.prog) w 1 n ad n c (Lib.byteCells s) (by rw [hsl, Nat.mul_one]) hnews
    have hst := storeM Tryd.prog g acc.length 5 fz (Lib.byteCells s) 0 cur w hg hfz (by rw [hsl]; omega) (byte_one s)
    simp only [Nat.add_zero, hsl] at hst
    have hr : (Builtin.append_ #[24, 24] ty #[.slice (some ⟨g, 0, none⟩) acc.length cap, .slice (some ad) n c]).run Tryd.prog w = .ok (.slice (some ⟨g, 0, none⟩) (acc.length + n) cap) (w.setRow g (cur.toList.take acc.length ++ Lib.byteCells s ++ cur.toList.drop (acc.length + n)).toArray) := by
      simp [Builtin.append_, run_underlying Tryd.underlying24, sizeOf, typeInfo, hi0, hz1, Builtin.lenOf, hroom, hf, Addr.add_lit, hst]
    refine ⟨_, _, hr, ⟨g, cap, _, fz, by rw [List.length_append, hn], hbg, setRow_heap w g cur _ _ _ hg, ?_, by rw [List.length_append, hn]; omega, hcm, ?_, ?_⟩, ⟨rfl, rfl, rfl, by simp, fun k _ hk => setRow_other w g k _ (fun e => hk (by simp [Value.ownBlock, e]))⟩⟩
    · refine fun j hj => hfz j ?_
      simp only [List.size_toArray, List.length_append, List.length_take, List.length_drop, Array.length_toList, hsl] at hj
      omega
    · simp only [List.size_toArray, List.length_append, List.length_take, List.length_drop, Array.length_toList, hsl]
      omega
    · rw [htake, ← cells_app]
      have e : (Lib.byteCells (acc ++ s)).length = (acc ++ s).length := by simp [Lib.byteCells]
      rw [← e]
      exact List.take_left
  · have holds : ∀ j u, (Lib.byteCells acc)[j]? = some u → w.cell? ((⟨g, 0, none⟩ : Addr).add j) = some u := by
      intro j u hu
      rw [add_off]
      simp only [World.cell?, hg]
      have hlt := (List.getElem?_eq_some_iff.1 hu).1
      rw [← htake, List.getElem?_take, if_pos (by omega)] at hu
      simpa using hu
    have hr := run_append_grow (P := Tryd.prog) w 24 ty 5 i0 (.int .u8 0) Tryd.underlying24 hi0 hz0 ⟨g, 0, none⟩ acc.length cap (Lib.byteCells acc) (by rw [hz1]; simpa using hxl) holds ad n c (Lib.byteCells s) (by rw [hz1]; simpa using hsl) hnews (by omega) (by omega) (by rw [hz2]; exact growslice_fits (by omega) (by omega))
    have hge := grownCap_ge w (acc.length + n) cap 5
    have hcm2 : grownCap w (acc.length + n) cap 5 ≤ maxLen := grownCap_le_maxLen w (acc.length + n) cap 5 (by unfold maxLen; omega)
    refine ⟨_, _, hr, ⟨w.heap.size, _, _, (0, 0), by rw [List.length_append, hn], hbase, heap_alloc_new w.drew _, fun j _ h => by simp at h, by rw [List.length_append, hn]; exact hge, hcm2, ?_, ?_⟩, ⟨rfl, rfl, rfl, by simp, fun k hk _ => heap_alloc_old w.drew _ hk⟩⟩
    · have hz1' : (Value.int IntKind.u8 0).cells.size = 1 := rfl
      simp only [Array.size_append, List.size_toArray, size_zeroCells, hz1', hxl, hsl]
      omega
    · simp only [Array.toList_append]
      rw [← cells_app]
      have e : (Lib.byteCells (acc ++ s)).length = (acc ++ s).length := by simp [Lib.byteCells]
      rw [← e]
      exact List.take_left
theorem wpList_append_MB {w : World} {ops : Array Oper} {rest : List Oper} {o : Oper} {a : Act} {Q : Exit → Act → World → Prop} (hgd : o.guard = none) (sl x : Operand)
    (ho : o.op = .call { callee := .builtin .append, args := #[sl, x], argTypes := #[24, 24] }) (base : Nat) (v : Value) (acc s : B) (hs : a.eval sl = v) (hown : OwnM w base v acc) (ad : Addr) (n c : Nat) (hx : a.eval x = .slice (some ad) n c) (hn : s.length = n) (hnews : ∀ j u, (Lib.byteCells s)[j]? = some u → w.cell? (ad.add j) = some u)
    (hbytes : acc.length + n ≤ 140737488355328) (hbase : base ≤ w.heap.size)
    (h : ∀ v' w', OwnM w' base v' (acc ++ s) → w.grownBy w' v.ownBlock → wpList Tryd.prog ops Q rest (a.put o.dst v') w') : wpList Tryd.prog ops Q (o :: rest) a w := by
  refine wpList_plain hgd fun K hK => ?_
  obtain ⟨v', w', hr, h2, h3⟩ := appendMB w base v acc hown s ad n c hn hnews o.type hbytes hbase
  unfold Oper.wp execOp
  simp only [ho, resolve, invoke, builtin, Sem.run_bind, Sem.run_pure, Result.andThen_ok, List.map_toArray, List.map_cons, List.map_nil, hs, hx, hr]
  exact hK _ _ (h v' w' h2 h3)
theorem dig_ext16 : ∀ a : Nat, a < 16 → (⟨#[48, 49, 50, 51, 52, 53, 54, 55, 56, 57, 97, 98, 99, 100, 101, 102]⟩ : ByteArray).extract a (a + 1) = str [digC a] := by
  intro a h
  have : a = 0 ∨ a = 1 ∨ a = 2 ∨ a = 3 ∨ a = 4 ∨ a = 5 ∨ a = 6 ∨ a = 7 ∨ a = 8 ∨ a = 9 ∨ a = 10 ∨ a = 11 ∨ a = 12 ∨ a = 13 ∨ a = 14 ∨ a = 15 := by omega
  rcases this with rfl | rfl | rfl | rfl | rfl | rfl | rfl | rfl | rfl | rfl | rfl | rfl | rfl | rfl | rfl | rfl <;> rfl
/-- What the digits so far and the number that is left make. -/
def EncI (n x : Nat) (t : B) : Prop := (x = 0 ∧ told 16 n = t) ∨ (1 ≤ x ∧ HexInv n x t)
theorem EncI.len {n x : Nat} {t : B} (h : EncI n x t) (hn : n < 9223372036854775808) : t.length ≤ 64 := by
  rcases h with ⟨_, h⟩ | ⟨h1, h⟩
  · rw [← h]; exact told_len16 n hn
  · have := h.len0; omega
theorem EncI.step {n x : Nat} {t : B} (h : EncI n x t) (hn : n < 9223372036854775808) (hx : x ≠ 0) : EncI n (x / 16) (digC (x % 16) :: t) := by
  rcases h with ⟨h, _⟩ | ⟨h1, h⟩
  · exact absurd h hx
  · by_cases h16 : 16 ≤ x
    · exact .inr ⟨by omega, h.step hn h16⟩
    · refine .inl ⟨by omega, ?_⟩
      rw [h.last h16, show x % 16 = x from Nat.mod_eq_of_lt (by omega)]
theorem EncI.fin {n : Nat} {t : B} (h : EncI n 0 t) : told 16 n = t := by
  rcases h with ⟨_, h⟩ | ⟨h1, _⟩
  · exact h
  · omega
set_option maxRecDepth 20000 in
set_option maxHeartbeats 8000000 in
theorem encd_nil (p : Option Addr) (c : Nat) (w : World) : Calls Tryd.prog 15 #[.slice p 0 c] w fun e w' => e = .returned (.slice none 0 0) ∧ w' = w := by
  go_enter Tryd.func15, Tryd.ntmps15
  go_wp2
  go_ret
  exact ⟨rfl, rfl⟩
set_option maxRecDepth 20000 in
set_option maxHeartbeats 8000000 in
theorem encd_some (l : B) (ag ao : Nat) (n c : Nat) (hn : l.length = n) (hn0 : 0 < n) (hnn : n ≤ 1048576) (w : World) (ha : ArgAt w (some ⟨ag, ao, none⟩) l) :
    Calls Tryd.prog 15 #[.slice (some ⟨ag, ao, none⟩) n c] w fun e w' => ∃ q m d, e = .returned (.slice q m d) ∧ OwnM w' w.heap.size (.slice q m d) (encK l) ∧ Below w.heap.size w w' := by
  have HA := hid ha
  have HN := hid hn
  have HEn := hid (show encK l = ((told 16 n ++ [13, 10]) ++ l) ++ [13, 10] from by unfold encK; rw [if_neg (by rintro rfl; simp at hn; omega), hn])
  have HS := hid (show EncI n n [] from .inr ⟨by omega, HexInv.start n⟩)
  have hn0I : ((n : Int) == 0) = false := i_ne (b := 0) (by omega)
  have HNN := hid hnn
  clear ha hn hn0 hnn
  go_enter Tryd.func15, Tryd.ntmps15
  go_wp2
  go_loopw [3, 4] (fun s u W => ∃ (x : Nat) (t : B), u = .int .i64 (x : Int) ∧ s = .string ⟨t.toArray⟩ ∧ W = w ∧ x ≤ 1048576 ∧ EncI n x t) (fun _ u _ => (intOf u).toNat)
  case atStart => exact ⟨n, [], rfl, rfl, rfl, HNN.out, HS.out⟩
  case round =>
    obtain ⟨x, t, rfl, rfl, hW, hx, hI⟩ := hrel
    rename World => wr
    subst wr
    have hl := hI.len (by have := HNN.out; omega)
    by_cases hz : x = 0
    · subst hz
      obtain ⟨v, W, hcv, ho, hb⟩ := bytes_ofM (t ++ [13, 10]) w (by rw [List.length_append]; simp; omega)
      obtain ⟨q1, c1, rfl⟩ := ownM_slice ho
      have hcat : (⟨t.toArray⟩ : ByteArray) ++ ⟨#[13, 10]⟩ = str (t ++ [13, 10]) := str_app t [13, 10]
      obtain ⟨m1, hm1⟩ : ∃ m1, (t ++ [13, 10] : B).length = m1 := ⟨_, rfl⟩
      have hm1l : m1 ≤ 66 := by rw [← hm1, List.length_append]; simp; omega
      rw [← hcat, hm1] at hcv
      have HO := hid ho
      have HB := hid hb
      have HM1 := hid hm1
      have HT := hid hI.fin
      have HL1 := hid hm1l
      rw [hm1] at HO
      clear hI ho hb hcat hm1 hx hm1l
      go_wp2_with (first | (at_builtin; clear hcv; refine wpList_append_MB rfl (.tmp 25) (.tmp 26) rfl w.heap.size (.slice q1 m1 c1) (t ++ [13, 10]) l (by go_simp) HO.out ⟨ag, ao, none⟩ n c (by go_simp) HN.out (arg_news (HA.out.next HB.out)) (by have := HNN.out; have := HL1.out; rw [HM1.out]; omega) HB.out.size ?_; intro v2 w2 ho2 hg2; have HB2 := hid (HB.out.trans (HO.out.below HB.out.size hg2)); obtain ⟨q2, c2, rfl⟩ := ownM_slice ho2; obtain ⟨m2, hm2⟩ : ∃ m2, ((t ++ [13, 10]) ++ l : B).length = m2 := ⟨_, rfl⟩; rw [hm2] at ho2 ⊢; have HM2 := hid hm2; have HO2 := hid ho2; clear ho2 hg2 HO hm2) | (at_builtin; refine wpList_append_M rfl (.tmp 28) (.const (.string ⟨#[13, 10]⟩)) rfl w.heap.size (.slice q2 m2 c2) ((t ++ [13, 10]) ++ l) [13, 10] (by go_simp) HO2.out rfl (by have := HNN.out; have := HL1.out; rw [List.length_append, HM1.out, HN.out]; simp; omega) HB2.out.size ?_; intro v3 w3 ho3 hg3; have HB3 := hid (HB2.out.trans (HO2.out.below HB2.out.size hg3)); obtain ⟨q3, c3, rfl⟩ := ownM_slice ho3; obtain ⟨m3, hm3⟩ : ∃ m3, (((t ++ [13, 10]) ++ l) ++ [13, 10] : B).length = m3 := ⟨_, rfl⟩; rw [hm3] at ho3 ⊢; have HO3 := hid ho3; clear ho3 hg3 hm3))
      go_ret
      refine ⟨q3, m3, c3, rfl, ?_, HB3.out⟩
      rw [HEn.out, HT.out]
      exact HO3.out
    · have HT := hid (hI.step (by have := HNN.out; omega) hz)
      obtain ⟨d, hd⟩ : ∃ d, x % 16 = d := ⟨_, rfl⟩
      obtain ⟨y, hy⟩ : ∃ y, x / 16 = y := ⟨_, rfl⟩
      have hd9 : d < 16 := by omega
      have hA2 : (x : Int).tmod 16 = (d : Int) := by rw [Int.tmod_eq_emod_of_nonneg (by omega)]; omega
      have hB : (x : Int) / 16 = (y : Int) := by omega
      have HBw := hid (show wrap64 (y : Int) = (y : Int) from wrap_small (Nat.le_refl _) (by omega))
      have hE := dig_ext16 d hd9
      have hC : str [digC d] ++ (⟨t.toArray⟩ : ByteArray) = str (digC d :: t) := str_app [digC d] t
      have HY := hid (show y ≤ 1048576 ∧ y < x from by omega)
      have hxp : (0 : Int) < (x : Int) := by omega
      subst hd
      rw [hy] at HT
      clear hI hy hz hx
      go_wp2
      go_roundw
      case rel => exact ⟨y, digC (x % 16) :: t, by rw [HBw.out], rfl, trivial, HY.out.1, HT.out⟩
      case measure => have := HY.out.2; rw [HBw.out]; simp [intOf]; omega
theorem encd_any (l : B) (p : Option Addr) (n c : Nat) (hn : l.length = n) (hnn : n ≤ 1048576) (w : World) (ha : ArgAt w p l) :
    Calls Tryd.prog 15 #[.slice p n c] w fun e w' => ∃ q d, e = .returned (.slice q (encK l).length d) ∧ ArgAt w' q (encK l) ∧ (q = none → d = 0) ∧ Below w.heap.size w w' := by
  by_cases h0 : n = 0
  · subst h0
    obtain rfl : l = [] := List.eq_nil_of_length_eq_zero hn
    refine (encd_nil p c w).mono ?_
    rintro e w' ⟨rfl, rfl⟩
    exact ⟨none, 0, rfl, fun i y hi => by simp [encK] at hi, fun _ => rfl, Below.refl _ _⟩
  · obtain ⟨g, o, e, _⟩ := ha 0 (l[0]'(by omega)) (List.getElem?_eq_getElem (by omega))
    subst e
    refine (encd_some l g o n c hn (by omega) hnn w ha).mono ?_
    rintro e w' ⟨q, m, d, rfl, ho, hb⟩
    obtain ⟨g2, cap, e2, _, ha2⟩ := ho.arg
    cases e2
    exact ⟨_, _, rfl, ha2, (fun e => by cases e), hb⟩
end Go.Proofs.YtllbdpiihiohoaaDoor
