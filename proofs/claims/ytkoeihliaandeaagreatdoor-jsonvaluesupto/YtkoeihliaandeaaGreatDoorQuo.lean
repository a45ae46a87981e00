/- A byte in quotation marks; quote. -/
import Derived.Test.YtkoeihliaandeaaGreatDoorValid
import Derived.Lib.AppendStr
import Derived.Laws.BitsLemmas
namespace Go.Proofs.YtkoeihliaandeaaGreatDoor
open Go.RowKit

/-- A row of bytes of one's own. -/
def Own (w : World) (base : Nat) (v : Value) (acc : B) : Prop := w.ownsRow base 5 1 v acc.length (Lib.byteCells acc)
theorem cells_app (a b : B) : Lib.byteCells (a ++ b) = Lib.byteCells a ++ Lib.byteCells b := by simp [Lib.byteCells]
theorem Own.put {w' : World} {base k : Nat} {v' : Value} {acc bs : B} {news : List Value} (h : w'.ownsRow base 5 1 v' (acc.length + k) (Lib.byteCells acc ++ news)) (e : Lib.byteCells bs = news) (hk : bs.length = k) : Own w' base v' (acc ++ bs) := by
  unfold Own
  rw [cells_app, e, List.length_append, hk]
  exact h
theorem Own.below {w w' : World} {base : Nat} {v : Value} {acc : B} (h : Own w base v acc) (hb : base ≤ w.heap.size) (hg : w.grownBy w' v.ownBlock) : Below base w w' :=
  ⟨hg.os, hg.tape, hg.output, hg.size, fun k hk => hg.block k (by omega) (fun e => own_ne h hk e.symm)⟩
theorem Own.alloc {w : World} {base : Nat} {v : Value} {acc : B} (h : Own w base v acc) (o : Obj) : Own (w.alloc o) base v acc := by
  refine ⟨h.1, ?_⟩
  rcases h.2 with h1 | ⟨g, cap, cur, h1, h2, h3, h4⟩
  · exact .inl h1
  · exact .inr ⟨g, cap, cur, h1, h2, ((below_new w o).block g (lt_of_heap h3)).trans h3, h4⟩
theorem add_off (g j : Nat) : (⟨g, 0, none⟩ : Addr).add j = ⟨g, j, none⟩ := by unfold Addr.add; split <;> simp_all
theorem cells_new (w : World) (news : List Value) (T : TypeId) : ∀ j u, news[j]? = some u → (w.alloc (.cells news.toArray T (0, 0))).cell? ((⟨w.heap.size, 0, none⟩ : Addr).add j) = some u := by
  intro j u hj
  rw [add_off]
  have := heap_alloc_new w (.cells news.toArray T (0, 0))
  simp only [World.cell?, this]
  simpa using hj
theorem infoB : (Tryz.prog.info? 5).map (fun i => (i.zero, i.size, i.bytes)) = some (some (.int .u8 0), 1, 1) := by kernel_rfl
abbrev hexC : ByteArray := ⟨#[48, 49, 50, 51, 52, 53, 54, 55, 56, 57, 97, 98, 99, 100, 101, 102, 65, 66, 67, 68, 69, 70]⟩
theorem hex_at (i : Nat) (hi : i < 16) : ∀ (j : Nat) (h : j < hexC.size), j = i → (hexC[j]'h).toNat = (hexD i).toNat := by
  intro j h e
  subst e
  have key : ∀ K : Fin 16, hexC.data[K.val]? = some (hexD K.val) := by decide
  have h2 : hexC.data[j]? = some (hexD j) := key ⟨j, hi⟩
  have h3 : hexC.data[j]? = some (hexC.data[j]'h) := Array.getElem?_eq_getElem h
  have h4 : hexC.data[j]'h = hexD j := Option.some.inj (h3.symm.trans h2)
  exact congrArg UInt8.toNat h4
theorem mask15 (X : Nat) (h : X < 256) : bits .and .u8 (X : Int) 15 = (X : Int) % 16 := by
  have key : ∀ K : Fin 256, bits .and .u8 (K.val : Int) 15 = (K.val : Int) % 16 := by decide +kernel
  exact key ⟨X, h⟩
set_option maxRecDepth 20000 in
set_option maxHeartbeats 4000000 in
theorem appendByte_any {w : World} {base : Nat} {v : Value} {acc : B} (c : UInt8) (h : Own w base v acc) (hb : base ≤ w.heap.size) (hl : acc.length + 6 ≤ 140737488355328) :
    Calls Tryz.prog 81 #[v, .int .u8 (c.toNat : Int)] w fun e w' => ∃ v', e = .returned v' ∧ Own w' base v' (acc ++ esc c) ∧ Below base w w' := by
  obtain ⟨p, c0, rfl⟩ := own_slice h
  obtain ⟨i0, hi0, hz0, hz1, hz2⟩ := info_parts infoB
  obtain ⟨X, hX⟩ : ∃ X : Nat, c.toNat = X := ⟨_, rfl⟩
  have hX256 : X < 256 := by rw [← hX]; exact c.toNat_lt
  obtain ⟨n, hn⟩ : ∃ n, acc.length = n := ⟨_, rfl⟩
  have HO := hid h
  have HBs := hid hb
  have HN := hid hn
  rw [hn] at HO hl ⊢
  rw [hX]
  clear h hb hn
  by_cases h34 : c = 34 ∨ c = 92
  · have he : esc c = [92, c] := by unfold esc; rw [if_pos h34]
    have HEsc := hid (show Lib.byteCells (esc c) = [.int .u8 92, .int .u8 (X : Int)] ∧ (esc c).length = 2 from by rw [he]; exact ⟨by simp [Lib.byteCells, hX], rfl⟩)
    have h2 : X = 34 ∨ X = 92 := by rcases h34 with rfl | rfl <;> (rw [← hX]; simp)
    clear hX h34 he
    rcases h2 with rfl | rfl
    · go_enter Tryz.func81, Tryz.ntmps81
      go_wp2_with (at_builtin; refine wpList_append_own_at _ rfl (.tmp 12) (.tmp 14) 55 rfl base 5 i0 _ 1 1 Tryz.underlying55 hi0 hz0 hz1 hz2 rfl (by decide) (.slice p n c0) n (Lib.byteCells acc) (by go_simp) (by have := HO.out.alloc (.cells #[.int .u8 92, .int .u8 34] 5 (0, 0)); unfold Own at this; rw [HN.out] at this; exact this) ⟨w.heap.size, 0, none⟩ 2 2 [.int .u8 92, .int .u8 34] (by go_simp) rfl (cells_new w _ _) (by simp [Value.oneCell']) (by unfold maxLen; omega) (by omega) (Nat.le_trans HBs.out (below_new _ _).size) ?_; intro v' w' hown hgr _ _; obtain ⟨p7, c7, rfl⟩ := own_slice hown; have HB := hid (((below_new w _).mono HBs.out).trans (Own.below (HO.out.alloc (.cells #[.int .u8 92, .int .u8 34] 5 (0, 0))) (Nat.le_trans HBs.out (below_new _ _).size) hgr)); have HW := hid (Own.put (bs := esc c) (by rw [HN.out]; exact hown) HEsc.out.1 HEsc.out.2); clear hown hgr)
      go_ret
      exact ⟨_, rfl, HW.out, HB.out⟩
    · go_enter Tryz.func81, Tryz.ntmps81
      go_wp2_with (at_builtin; refine wpList_append_own_at _ rfl (.tmp 12) (.tmp 14) 55 rfl base 5 i0 _ 1 1 Tryz.underlying55 hi0 hz0 hz1 hz2 rfl (by decide) (.slice p n c0) n (Lib.byteCells acc) (by go_simp) (by have := HO.out.alloc (.cells #[.int .u8 92, .int .u8 92] 5 (0, 0)); unfold Own at this; rw [HN.out] at this; exact this) ⟨w.heap.size, 0, none⟩ 2 2 [.int .u8 92, .int .u8 92] (by go_simp) rfl (cells_new w _ _) (by simp [Value.oneCell']) (by unfold maxLen; omega) (by omega) (Nat.le_trans HBs.out (below_new _ _).size) ?_; intro v' w' hown hgr _ _; obtain ⟨p7, c7, rfl⟩ := own_slice hown; have HB := hid (((below_new w _).mono HBs.out).trans (Own.below (HO.out.alloc (.cells #[.int .u8 92, .int .u8 92] 5 (0, 0))) (Nat.le_trans HBs.out (below_new _ _).size) hgr)); have HW := hid (Own.put (bs := esc c) (by rw [HN.out]; exact hown) HEsc.out.1 HEsc.out.2); clear hown hgr)
      go_ret
      exact ⟨_, rfl, HW.out, HB.out⟩
  have n34 : ((X : Int) == 34) = false := by
    simp only [beq_eq_false_iff_ne, ne_eq]
    intro e
    exact h34 (.inl (UInt8.toNat_inj.1 (by rw [hX]; show X = 34; omega)))
  have n92 : ((X : Int) == 92) = false := by
    simp only [beq_eq_false_iff_ne, ne_eq]
    intro e
    exact h34 (.inr (UInt8.toNat_inj.1 (by rw [hX]; show X = 92; omega)))
  by_cases h10 : c = 10
  · have he : esc c = [92, 110] := by unfold esc; rw [if_neg h34, if_pos h10]
    have HEsc := hid (show Lib.byteCells (esc c) = [.int .u8 92, .int .u8 110] ∧ (esc c).length = 2 from by rw [he]; exact ⟨by simp [Lib.byteCells], rfl⟩)
    obtain rfl : X = 10 := by rw [← hX, h10]; rfl
    clear hX h34 he
    go_enter Tryz.func81, Tryz.ntmps81
    go_wp2_with (at_builtin; refine wpList_append_own_at _ rfl (.tmp 19) (.tmp 20) 55 rfl base 5 i0 _ 1 1 Tryz.underlying55 hi0 hz0 hz1 hz2 rfl (by decide) (.slice p n c0) n (Lib.byteCells acc) (by go_simp) (by have := HO.out.alloc (.cells #[.int .u8 92, .int .u8 110] 5 (0, 0)); unfold Own at this; rw [HN.out] at this; exact this) ⟨w.heap.size, 0, none⟩ 2 2 [.int .u8 92, .int .u8 110] (by go_simp) rfl (cells_new w _ _) (by simp [Value.oneCell']) (by unfold maxLen; omega) (by omega) (Nat.le_trans HBs.out (below_new _ _).size) ?_; intro v' w' hown hgr _ _; obtain ⟨p7, c7, rfl⟩ := own_slice hown; have HB := hid (((below_new w _).mono HBs.out).trans (Own.below (HO.out.alloc (.cells #[.int .u8 92, .int .u8 110] 5 (0, 0))) (Nat.le_trans HBs.out (below_new _ _).size) hgr)); have HW := hid (Own.put (bs := esc c) (by rw [HN.out]; exact hown) HEsc.out.1 HEsc.out.2); clear hown hgr)
    go_ret
    exact ⟨_, rfl, HW.out, HB.out⟩
  have n10 : ((X : Int) == 10) = false := by
    simp only [beq_eq_false_iff_ne, ne_eq]
    intro e
    exact h10 (UInt8.toNat_inj.1 (by rw [hX]; show X = 10; omega))
  by_cases h13 : c = 13
  · have he : esc c = [92, 114] := by unfold esc; rw [if_neg h34, if_neg h10, if_pos h13]
    have HEsc := hid (show Lib.byteCells (esc c) = [.int .u8 92, .int .u8 114] ∧ (esc c).length = 2 from by rw [he]; exact ⟨by simp [Lib.byteCells], rfl⟩)
    obtain rfl : X = 13 := by rw [← hX, h13]; rfl
    clear hX h34 he
    go_enter Tryz.func81, Tryz.ntmps81
    go_wp2_with (at_builtin; refine wpList_append_own_at _ rfl (.tmp 25) (.tmp 26) 55 rfl base 5 i0 _ 1 1 Tryz.underlying55 hi0 hz0 hz1 hz2 rfl (by decide) (.slice p n c0) n (Lib.byteCells acc) (by go_simp) (by have := HO.out.alloc (.cells #[.int .u8 92, .int .u8 114] 5 (0, 0)); unfold Own at this; rw [HN.out] at this; exact this) ⟨w.heap.size, 0, none⟩ 2 2 [.int .u8 92, .int .u8 114] (by go_simp) rfl (cells_new w _ _) (by simp [Value.oneCell']) (by unfold maxLen; omega) (by omega) (Nat.le_trans HBs.out (below_new _ _).size) ?_; intro v' w' hown hgr _ _; obtain ⟨p7, c7, rfl⟩ := own_slice hown; have HB := hid (((below_new w _).mono HBs.out).trans (Own.below (HO.out.alloc (.cells #[.int .u8 92, .int .u8 114] 5 (0, 0))) (Nat.le_trans HBs.out (below_new _ _).size) hgr)); have HW := hid (Own.put (bs := esc c) (by rw [HN.out]; exact hown) HEsc.out.1 HEsc.out.2); clear hown hgr)
    go_ret
    exact ⟨_, rfl, HW.out, HB.out⟩
  have n13 : ((X : Int) == 13) = false := by
    simp only [beq_eq_false_iff_ne, ne_eq]
    intro e
    exact h13 (UInt8.toNat_inj.1 (by rw [hX]; show X = 13; omega))
  by_cases h9 : c = 9
  · have he : esc c = [92, 116] := by unfold esc; rw [if_neg h34, if_neg h10, if_neg h13, if_pos h9]
    have HEsc := hid (show Lib.byteCells (esc c) = [.int .u8 92, .int .u8 116] ∧ (esc c).length = 2 from by rw [he]; exact ⟨by simp [Lib.byteCells], rfl⟩)
    obtain rfl : X = 9 := by rw [← hX, h9]; rfl
    clear hX h34 he
    go_enter Tryz.func81, Tryz.ntmps81
    go_wp2_with (at_builtin; refine wpList_append_own_at _ rfl (.tmp 31) (.tmp 32) 55 rfl base 5 i0 _ 1 1 Tryz.underlying55 hi0 hz0 hz1 hz2 rfl (by decide) (.slice p n c0) n (Lib.byteCells acc) (by go_simp) (by have := HO.out.alloc (.cells #[.int .u8 92, .int .u8 116] 5 (0, 0)); unfold Own at this; rw [HN.out] at this; exact this) ⟨w.heap.size, 0, none⟩ 2 2 [.int .u8 92, .int .u8 116] (by go_simp) rfl (cells_new w _ _) (by simp [Value.oneCell']) (by unfold maxLen; omega) (by omega) (Nat.le_trans HBs.out (below_new _ _).size) ?_; intro v' w' hown hgr _ _; obtain ⟨p7, c7, rfl⟩ := own_slice hown; have HB := hid (((below_new w _).mono HBs.out).trans (Own.below (HO.out.alloc (.cells #[.int .u8 92, .int .u8 116] 5 (0, 0))) (Nat.le_trans HBs.out (below_new _ _).size) hgr)); have HW := hid (Own.put (bs := esc c) (by rw [HN.out]; exact hown) HEsc.out.1 HEsc.out.2); clear hown hgr)
    go_ret
    exact ⟨_, rfl, HW.out, HB.out⟩
  have n9 : ((X : Int) == 9) = false := by
    simp only [beq_eq_false_iff_ne, ne_eq]
    intro e
    exact h9 (UInt8.toNat_inj.1 (by rw [hX]; show X = 9; omega))
  by_cases h32 : X < 32
  · have he : esc c = [92, 117, 48, 48, hexD (X / 16), hexD (X % 16)] := by unfold esc; rw [if_neg h34, if_neg h10, if_neg h13, if_neg h9, if_pos (by rw [hX]; exact h32), hX]
    have HEsc := hid (show Lib.byteCells (esc c) = [.int .u8 92, .int .u8 117, .int .u8 48, .int .u8 48, .int .u8 ((hexD (X / 16)).toNat : Int), .int .u8 ((hexD (X % 16)).toNat : Int)] ∧ (esc c).length = 6 from by rw [he]; exact ⟨by simp [Lib.byteCells], rfl⟩)
    have e1 := hex_at (X / 16) (by omega)
    have e2 := hex_at (X % 16) (by omega)
    have HE1 := hid e1
    have HE2 := hid e2
    clear hX he h34 h10 h13 h9 e1 e2
    obtain ⟨h1, hh1⟩ : ∃ h1, hexD (X / 16) = h1 := ⟨_, rfl⟩
    obtain ⟨h2, hh2⟩ : ∃ h2, hexD (X % 16) = h2 := ⟨_, rfl⟩
    rw [hh1] at HE1
    rw [hh2] at HE2
    rw [hh1, hh2] at HEsc
    clear hh1 hh2
    go_enter Tryz.func81, Tryz.ntmps81
    go_wp2
    refine wp_region_noPanic ?_
    refine any_begin 10 (by kernel_rfl) (by kernel_rfl) ?_
    refine any_take (i := 0) (some 37) rfl rfl (by kernel_rfl) (by kernel_rfl) (by kernel_rfl) (fun _ _ _ h => h) (by rfl) (v := ?v0a) ?hy0a ?rest0a
    case hy0a => intro w0; go_simp; try with_reducible rfl
    simp only [Act.put, List.setIfInBounds_toArray, List.set_cons_zero, List.set_cons_succ]
    refine any_take (i := 1) (some 38) rfl rfl (by kernel_rfl) (by kernel_rfl) (by kernel_rfl) (fun _ _ _ h => h) (by rfl) (v := ?v1a) ?hy1a ?rest1a
    case hy1a => intro w0; go_simp; try with_reducible rfl
    simp only [Act.put, List.setIfInBounds_toArray, List.set_cons_zero, List.set_cons_succ]
    refine any_take (i := 2) (some 39) rfl rfl (by kernel_rfl) (by kernel_rfl) (by kernel_rfl) (fun _ _ _ h => h) (by rfl) (v := .int .u8 ((X / 16 : Nat) : Int)) ?hy2a ?rest2a
    case hy2a => intro w0; go_simp
    simp only [Act.put, List.setIfInBounds_toArray, List.set_cons_zero, List.set_cons_succ]
    refine any_take (i := 3) (some 40) rfl rfl (by kernel_rfl) (by kernel_rfl) (by kernel_rfl) (fun _ _ _ h => h) (by rfl) (v := .int .u8 (h1.toNat : Int)) ?hy3a ?rest3a
    case hy3a => intro w0; go_simp; rw [dif_pos ⟨by omega, by omega⟩]; simp only [Result.andThen]; congr 4; exact HE1.out _ _ (by omega)
    simp only [Act.put, List.setIfInBounds_toArray, List.set_cons_zero, List.set_cons_succ]
    refine any_take (i := 4) (some 41) rfl rfl (by kernel_rfl) (by kernel_rfl) (by kernel_rfl) (fun _ _ _ h => h) (by rfl) (v := ?v4a) ?hy4a ?rest4a
    case hy4a => intro w0; go_simp; try with_reducible rfl
    simp only [Act.put, List.setIfInBounds_toArray, List.set_cons_zero, List.set_cons_succ]
    refine any_take (i := 5) (some 42) rfl rfl (by kernel_rfl) (by kernel_rfl) (by kernel_rfl) (fun _ _ _ h => h) (by rfl) (v := .int .u8 ((X % 16 : Nat) : Int)) ?hy5a ?rest5a
    case hy5a => intro w0; go_simp; exact mask15 X hX256
    simp only [Act.put, List.setIfInBounds_toArray, List.set_cons_zero, List.set_cons_succ]
    refine any_take (i := 6) (some 43) rfl rfl (by kernel_rfl) (by kernel_rfl) (by kernel_rfl) (fun _ _ _ h => h) (by rfl) (v := .int .u8 (h2.toNat : Int)) ?hy6a ?rest6a
    case hy6a => intro w0; go_simp; rw [dif_pos ⟨by omega, by omega⟩]; simp only [Result.andThen]; congr 4; exact HE2.out _ _ (by omega)
    simp only [Act.put, List.setIfInBounds_toArray, List.set_cons_zero, List.set_cons_succ]
    refine any_one (i := 7) (by kernel_rfl) rfl (fun K hK => ?_)
    go_simp
    refine hK _ _ ?_
    clear hK K
    refine any_one (i := 8) (by kernel_rfl) rfl (fun K hK => ?_)
    rw [if_pos (by rfl)]
    refine wp_append_own_at (.tmp 37) (.tmp 44) 55 rfl base 5 i0 _ 1 1 Tryz.underlying55 hi0 hz0 hz1 hz2 rfl (by decide) (.slice p n c0) n (Lib.byteCells acc) (by go_simp) (by have := HO.out.alloc (.cells #[.int .u8 92, .int .u8 117, .int .u8 48, .int .u8 48, .int .u8 (h1.toNat : Int), .int .u8 (h2.toNat : Int)] 5 (0, 0)); unfold Own at this; rw [HN.out] at this; exact this) ⟨w.heap.size, 0, none⟩ 6 6 [.int .u8 92, .int .u8 117, .int .u8 48, .int .u8 48, .int .u8 (h1.toNat : Int), .int .u8 (h2.toNat : Int)] (by go_simp) rfl (cells_new w _ _) (by simp [Value.oneCell']) (by unfold maxLen; omega) (by omega) (Nat.le_trans HBs.out (below_new _ _).size) ?_
    intro v' w' hown hgr _
    obtain ⟨p7, c7, rfl⟩ := own_slice hown
    have HB := hid (((new_drew w _).mono HBs.out).trans (Own.below (show Own (w.alloc (.cells #[.int .u8 92, .int .u8 117, .int .u8 48, .int .u8 48, .int .u8 (h1.toNat : Int), .int .u8 (h2.toNat : Int)] 5 (0, 0))).drew base _ acc from HO.out.alloc (.cells #[.int .u8 92, .int .u8 117, .int .u8 48, .int .u8 48, .int .u8 (h1.toNat : Int), .int .u8 (h2.toNat : Int)] 5 (0, 0))) (Nat.le_trans HBs.out (below_new _ _).size) hgr))
    have HW := hid (Own.put (bs := esc c) (by rw [HN.out]; exact hown) HEsc.out.1 HEsc.out.2)
    clear hown hgr
    show K (Act.put _ (some 45) (.slice p7 (n + 6) c7)) w'
    refine hK _ _ ?_
    clear hK K
    simp only [Act.put, List.setIfInBounds_toArray, List.set_cons_zero, List.set_cons_succ]
    refine any_take (i := 9) (some 4) rfl rfl (by kernel_rfl) (by kernel_rfl) (by kernel_rfl) (fun _ _ _ h => h) (by rfl) (v := ?v9a) ?hy9a ?rest9a
    case hy9a => intro w0; go_simp; try with_reducible rfl
    simp only [Act.put, List.setIfInBounds_toArray, List.set_cons_zero, List.set_cons_succ]
    refine any_done (by kernel_rfl) ?_ _
    refine NoPanic.normal ?_
    go_wp2
    go_ret
    exact ⟨_, rfl, HW.out, HB.out⟩
  · have he : esc c = [c] := by unfold esc; rw [if_neg h34, if_neg h10, if_neg h13, if_neg h9, if_neg (by rw [hX]; exact h32)]
    have HEsc := hid (show Lib.byteCells (esc c) = [.int .u8 (X : Int)] ∧ (esc c).length = 1 from by rw [he]; exact ⟨by simp [Lib.byteCells, hX], rfl⟩)
    clear hX he h34 h10 h13 h9
    go_enter Tryz.func81, Tryz.ntmps81
    go_wp2_with (at_builtin; refine wpList_append_own_at _ rfl (.tmp 46) (.tmp 48) 55 rfl base 5 i0 _ 1 1 Tryz.underlying55 hi0 hz0 hz1 hz2 rfl (by decide) (.slice p n c0) n (Lib.byteCells acc) (by go_simp) (by have := HO.out.alloc (.cells #[.int .u8 (X : Int)] 5 (0, 0)); unfold Own at this; rw [HN.out] at this; exact this) ⟨w.heap.size, 0, none⟩ 1 1 [.int .u8 (X : Int)] (by go_simp) rfl (cells_new w _ _) (by simp [Value.oneCell']) (by unfold maxLen; omega) (by omega) (Nat.le_trans HBs.out (below_new _ _).size) ?_; intro v' w' hown hgr _ _; obtain ⟨p7, c7, rfl⟩ := own_slice hown; have HB := hid (((below_new w _).mono HBs.out).trans (Own.below (HO.out.alloc (.cells #[.int .u8 (X : Int)] 5 (0, 0))) (Nat.le_trans HBs.out (below_new _ _).size) hgr)); have HW := hid (Own.put (bs := esc c) (by rw [HN.out]; exact hown) HEsc.out.1 HEsc.out.2); clear hown hgr)
    go_ret
    exact ⟨_, rfl, HW.out, HB.out⟩
theorem own_slice3 {w : World} {base n m : Nat} {e : TypeId} {u : Value} {ys : List Value} (h : w.ownsRow base e m u n ys) : ∃ p L c, u = .slice p L c := by
  obtain ⟨p, c, e⟩ := own_slice h
  exact ⟨p, n, c, e⟩
theorem escs_app (a b : B) : escs (a ++ b) = escs a ++ escs b := by
  induction a with
  | nil => rfl
  | cons c a ih => simp only [List.cons_append, escs, ih, List.append_assoc]
theorem esc_most (c : UInt8) : (esc c).length ≤ 6 := by
  unfold esc
  (repeat' split) <;> simp
theorem escs_most : ∀ s : B, (escs s).length ≤ 6 * s.length
  | [] => Nat.le_refl _
  | c :: t => by
    have := escs_most t
    have := esc_most c
    simp only [escs, List.length_append, List.length_cons]
    omega
theorem Own.start (w : World) (c : UInt8) : Own (w.alloc (.cells #[.int .u8 (c.toNat : Int)] 5 (0, 0))) w.heap.size (.slice (some ⟨w.heap.size, 0, none⟩) 1 1) [c] := by
  refine ⟨rfl, .inr ⟨w.heap.size, 1, _, rfl, Nat.le_refl _, heap_alloc_new _ _, Nat.le_refl _, by unfold maxLen; omega, rfl, ?_⟩⟩
  simp [Lib.byteCells]
set_option maxRecDepth 20000 in
set_option maxHeartbeats 4000000 in
theorem quote_any (s : B) (hs : 6 * s.length + 10 ≤ 140737488355328) (w : World) :
    Calls Tryz.prog 62 #[.string (str s)] w fun e w' => e = .returned (.string (str (quoteB s))) ∧ Below w.heap.size w w' := by
  obtain ⟨i0, hi0, hz0, hz1, hz2⟩ := info_parts infoB
  obtain ⟨S, hS⟩ : ∃ S, str s = S := ⟨_, rfl⟩
  obtain ⟨n, hn⟩ : ∃ n, S.size = n := ⟨_, rfl⟩
  have hsl : s.length = n := by rw [← hn, ← hS]; show s.length = s.toArray.size; simp
  have HD := hid (show S.data.toList = s from by rw [← hS])
  have HN := hid hsl
  have HSz := hid hn
  rw [hS]
  rw [hsl] at hs
  clear hS hsl
  have HO0 := hid (Own.start w 34)
  have HB0 := hid (below_new w (.cells #[.int .u8 34] 5 (0, 0)))
  go_enter Tryz.func62, Tryz.ntmps62
  go_wp2
  go_loopg [3, 8] (n + 1) (fun gk s3 s8 wr => ∃ i : Nat, i ≤ n ∧ gk = n - i + 1 ∧ s8 = .int .i64 (i : Int) ∧ Own wr w.heap.size s3 (34 :: escs (s.take i)) ∧ w.heap.size ≤ wr.heap.size ∧ Below w.heap.size w wr)
  case atStart => exact ⟨0, by omega, rfl, rfl, HO0.out, HB0.out.size, HB0.out⟩
  case round =>
    obtain ⟨i, hi, rfl, rfl, ho, hsz, hb⟩ := hrel
    have HO := hid ho
    have HB := hid hb
    have HZ := hid hsz
    obtain ⟨p, c0, rfl⟩ := own_slice ho
    clear ho hb hsz
    have HLn := hid (show (34 :: escs (s.take i) : B).length ≤ 6 * i + 1 from by
      have := escs_most (s.take i)
      rw [List.length_take, HN.out] at this
      simp only [List.length_cons]
      omega)
    by_cases hin : i < n
    · have hi1 : i < s.length := by rw [HN.out]; exact hin
      obtain ⟨c, hc⟩ : ∃ c, s[i] = c := ⟨_, rfl⟩
      have hix : S.size = n := HSz.out
      have HIx := hid (show ∀ h : i < S.size, (S[i]'h) = c from fun h => by
        rw [← hc]
        have e : S.data.toList[i]? = s[i]? := by rw [HD.out]
        rw [List.getElem?_eq_getElem hi1] at e
        have e2 : S.data[i]? = some (S.data[i]'h) := Array.getElem?_eq_getElem h
        have e3 : S.data.toList[i]? = S.data[i]? := by simp
        exact Option.some.inj (e2.symm.trans (e3.symm.trans e)))
      have HTk := hid (show 34 :: escs (s.take (i + 1)) = (34 :: escs (s.take i)) ++ esc c from by rw [List.take_add_one, List.getElem?_eq_getElem hi1, hc, escs_app]; simp [escs])
      obtain ⟨X, hXc⟩ : ∃ X : Nat, c.toNat = X := ⟨_, rfl⟩
      have HXc := hid hXc
      have hbyte : ∀ h : i < S.size, (S[i]'h).toNat = X := fun h => by rw [HIx.out h, hXc]
      generalize hln : (34 :: escs (s.take i) : B).length = ln at HLn
      have hln2 := HLn.out
      clear hc hi1 hXc hix
      go_wp2_with (go_at_call 81; have hcall := appendByte_any c HO.out HZ.out (by rw [hln]; omega); rw [HXc.out, hln] at hcall; refine hcall.mono ?_; clear hcall; rintro e w1 ⟨v', rfl, ho1, hb1⟩; obtain ⟨p7, L7, c7, rfl⟩ := own_slice3 ho1; have HO1 := hid (show Own w1 w.heap.size (.slice p7 L7 c7) (34 :: escs (s.take (i + 1))) from by (rw [HTk.out]; exact ho1)); have HB1 := hid (HB.out.trans hb1); clear ho1 hb1)
      go_roundg (n - (i + 1) + 1)
      case measure => omega
      case rel => exact ⟨i + 1, by omega, rfl, by push_cast; rfl, HO1.out, HB1.out.size, HB1.out⟩
    · obtain rfl : i = n := by omega
      have HTk := hid (show s.take i = s from List.take_of_length_le (by rw [HN.out]; exact Nat.le_refl _))
      rw [HTk.out] at HO HLn ⊢
      generalize hln : (34 :: escs s : B).length = ln at HO HLn ⊢
      have hln2 := HLn.out
      have HQ := hid (show (34 :: escs s) ++ [34] = quoteB s from by simp [quoteB])
      have HLe := hid hln
      clear hln
      go_wp2_with (at_builtin; refine wpList_append_own_at _ rfl (.tmp 17) (.tmp 18) 55 rfl w.heap.size 5 i0 _ 1 1 Tryz.underlying55 hi0 hz0 hz1 hz2 rfl (by decide) (.slice p ln c0) ln (Lib.byteCells (34 :: escs s)) (by go_simp) (by have := HO.out.alloc (.cells #[.int .u8 34] 5 (0, 0)); unfold Own at this; rw [HLe.out] at this; exact this) ⟨wr.heap.size, 0, none⟩ 1 1 [.int .u8 34] (by go_simp) rfl (cells_new wr _ _) (by simp [Value.oneCell']) (by unfold maxLen; omega) (by omega) (Nat.le_trans HZ.out (below_new _ _).size) ?_; intro v' w' hown hgr _ _; obtain ⟨p7, L7, c7, rfl⟩ := own_slice3 hown; have HB2 := hid (HB.out.trans (((below_new wr _).mono HZ.out).trans (Own.below (HO.out.alloc (.cells #[.int .u8 34] 5 (0, 0))) (Nat.le_trans HZ.out (below_new _ _).size) hgr))); have HW := hid (Own.put (acc := 34 :: escs s) (bs := [34]) (by rw [HLe.out]; exact hown) rfl rfl); have hconv := conv_own (World.ownsRowF_of HW.out); rw [HQ.out] at hconv; clear hown hgr)
      go_ret
      exact ⟨rfl, HB2.out⟩
end Go.Proofs.YtkoeihliaandeaaGreatDoor
