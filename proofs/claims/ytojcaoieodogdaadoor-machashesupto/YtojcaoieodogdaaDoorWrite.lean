/- Write of package sha. -/
import Derived.Test.YtojcaoieodogdaaDoorMsg
import Derived.Test.YtojcaoieodogdaaDoorOrder
import Derived.Deep.RegionHeld3
import Derived.Deep.CutBlock
import Derived.Deep.CutRange
namespace Go.Proofs.YtojcaoieodogdaaDoor
open Go.RowKit

theorem set_count {W1 : World} {h L d : Nat} {st rest : List Int} (H : HashAt W1 h st rest L) : HashAt (W1.setCell ⟨h, 72, none⟩ (.int .i64 ((L : Int) + d))) h st rest (L + d) := by
  refine ⟨?_, H.st, H.rest⟩
  have := H.row.set 72 (.int .i64 ((L + d : Nat) : Int))
  rw [hcells_count H.st H.rest] at this
  rw [show ((L : Int) + d) = ((L + d : Nat) : Int) by omega]
  exact this
theorem write_part {V W1 : World} {h L p d k : Nat} {m bs P st rest : List Int} (_H : HashAt V h st rest L) (hh : Hashed (m ++ bs.take k) st rest) (hL : (m ++ bs.take k).length = L) (hp : L % 64 = p) (hPl : P.length = d) (hP : P = (bs.drop k).take d) (hd : p + d < 64)
    (H3 : HashAt W1 h st (splice rest p P) L) : HoldsH (W1.setCell ⟨h, 72, none⟩ (.int .i64 ((L : Int) + d))) h (m ++ bs.take (k + d)) := by
  have e : m ++ bs.take (k + d) = m ++ bs.take k ++ P := by rw [hP, List.append_assoc, List.take_add]
  have el : (m ++ bs.take (k + d)).length = L + d := by rw [e, List.length_append, hL, hPl]
  refine ⟨st, splice rest p P, by rw [el]; exact set_count H3, ?_⟩
  rw [e]
  have := hh.part (p := P) (by rw [hL, hp, hPl]; exact hd)
  rwa [hL, hp] at this
theorem write_full {W4 : World} {h L p d k : Nat} {m bs P st rest : List Int} (hh : Hashed (m ++ bs.take k) st rest) (hL : (m ++ bs.take k).length = L) (hp : L % 64 = p) (hPl : P.length = d) (hP : P = (bs.drop k).take d) (hd : p + d = 64)
    (H3 : HashAt W4 h (mixW st (splice rest p P)) (splice rest p P) (L + d)) : HoldsH W4 h (m ++ bs.take (k + d)) := by
  have e : m ++ bs.take (k + d) = m ++ bs.take k ++ P := by rw [hP, List.append_assoc, List.take_add]
  have el : (m ++ bs.take (k + d)).length = L + d := by rw [e, List.length_append, hL, hPl]
  refine ⟨mixW st (splice rest p P), splice rest p P, by rw [el]; exact H3, ?_⟩
  rw [e]
  have := hh.full (p := P) (by rw [hL, hp, hPl]; exact hd)
  rwa [hL, hp] at this
theorem load_yields {a : Act} {oi : Oper} {t : TypeId} {x : Operand} {pv v : Value} {w : World} (h : (Instr.loadAt t pv).run Tryd.prog w = .ok v w) (ho : oi.op = .load t x) (hx : a.eval x = pv) : (execOp a.eval oi).run Tryd.prog w = .ok (.value v) w := by
  simp [execOp, ho, hx, h]
theorem wpList_store_st {w : World} {ops : Array Oper} {rs : List Oper} {o : Oper} {a : Act} {Q : Exit → Act → World → Prop} (hgd : o.guard = none) (x y : Operand) (ho : o.op = .store 57 x y) {st rest : List Int} {n : Nat} (h : Nat) (st' : List Int)
    (hx : a.eval x = .pointer (some ⟨h, 0, none⟩)) (hy : a.eval y = .agg (ws st')) (H : HashAt w h st rest n) (h8 : st'.length = 8)
    (hh : ∀ W, HashAt W h st' rest n → Stored h (hcells st' rest n) 61 w W → wpList Tryd.prog ops Q rs (a.put o.dst undef) W) : wpList Tryd.prog ops Q (o :: rs) a w := by
  obtain ⟨W, h1, h2, h3⟩ := H.store_st h8
  refine wpList_plain hgd fun K hK => ?_
  unfold Oper.wp execOp
  simp only [ho, hx, hy, Sem.run_bind, h1, Result.andThen_ok]
  exact hK _ _ (hh W h2 h3)
set_option maxRecDepth 20000 in
set_option maxHeartbeats 4000000 in
theorem write_core (h b o cap N : Nat) (m bs : List Int) (w : World) (HH : HoldsH w h m) (hK : KAt w) (h0 : 0 < h) (hne : b ≠ h) (hb : b < w.heap.size) (hc : CellsAt w b o bs) (hN : bs.length = N) (hcap : N ≤ cap) (hmax : cap ≤ maxLen) (hm : m.length + bs.length ≤ 1152921504606846976) :
    Calls Tryd.prog 13 #[.pointer (some ⟨h, 0, none⟩), .slice (some ⟨b, o, none⟩) N cap] w fun e w' => e = .returned (.tuple #[]) ∧ HoldsH w' h (m ++ bs) ∧ Turn h w w' := by
  go_enter Tryd.func13, Tryd.ntmps13
  go_wp2
  go_loopw [1] (fun s W => ∃ (k q n c : Nat), s = .slice (some ⟨b, q, none⟩) n c ∧ n + k = N ∧ n ≤ c ∧ c ≤ maxLen ∧ (0 < n → q = o + k) ∧ Hid (HoldsH W h (m ++ bs.take k) ∧ Turn h w W)) (fun s _ => match s with | .slice _ n _ => n | _ => 0)
  case atStart =>
    exact ⟨0, o, N, cap, rfl, by omega, hcap, hmax, fun _ => rfl, by simpa using HH, Turn.refl _ _⟩
  case round =>
    obtain ⟨k, q, n, c, rfl, hnk, hnc, hcm, hq, HP⟩ := hrel
    obtain ⟨V, hV⟩ : ∃ V, V = wr := ⟨_, rfl⟩
    rw [← hV] at HP ⊢
    clear hV
    by_cases hlt : 0 < n
    · have hq' := hq hlt
      subst hq'
      have hlt' : (0 : Int) < n := by omega
      obtain ⟨⟨st, rest, H1, H2⟩, HT⟩ := HP.out
      obtain ⟨L, hL⟩ : ∃ L, (m ++ bs.take k).length = L := ⟨_, rfl⟩
      have hLm : L = m.length + k := by rw [← hL]; simp; omega
      rw [hL] at H1
      obtain ⟨p, hp⟩ : ∃ p, L % 64 = p := ⟨_, rfl⟩
      have hp64 : p < 64 := by omega
      have hp' : (L : Int) % 64 = (p : Int) := by omega
      have hp1 : (p : Int) ≤ 64 := by omega
      have hp0 : (0 : Int) ≤ p := by omega
      obtain ⟨d, hd⟩ : ∃ d, d = min n (64 - p) := ⟨_, rfl⟩
      have hd1 : d ≤ n := by omega
      have hd2 : p + d ≤ 64 := by omega
      have hd0 : 0 < d := by omega
      have hdc : (d : Int) ≤ c := by omega
      have hdn : (d : Int) ≤ n := by omega
      have hd0' : (0 : Int) ≤ d := by omega
      obtain ⟨P, hPe⟩ : ∃ P, P = (bs.drop k).take d := ⟨_, rfl⟩
      have hPl : P.length = d := by rw [hPe]; simp; omega
      have hPc : CellsAt V b (o + k) P := by rw [hPe]; exact ((hc.of_heap (HT.block b hb hne)).drop k).take d
      have c72 := H1.count
      have HX : Hid (HashAt V h st rest L ∧ CellsAt V b (o + k) P ∧ P.length = d ∧ p + d ≤ 64 ∧ d = min n (64 - p)) := ⟨H1, hPc, hPl, hd2, hd⟩
      have HY : Hid (P = (bs.drop k).take d ∧ (m ++ bs.take k).length = L ∧ L % 64 = p ∧ Hashed (m ++ bs.take k) st rest ∧ Turn h w V ∧ L = m.length + k) := ⟨hPe, hL, hp, H2, HT, hLm⟩
      have HZ : Hid (n + k = N ∧ bs.length = N ∧ m.length + bs.length ≤ 1152921504606846976 ∧ CellsAt w b o bs ∧ n ≤ c ∧ c ≤ maxLen) := ⟨hnk, hN, hm, hc, hnc, hcm⟩
      have hLs : (L : Int) + d ≤ 1152921504606846976 := by omega
      clear HP H1 hPc hPl hd2 hd hPe hL hp H2 HT hLm hnk hq hnc hcm hc hN hm HH
      by_cases hcd : c = d
      · have hcd2 := hcd.symm
        subst hcd2
        by_cases hf : p + d = 64
        · have hf' : (p : Int) + d = 64 := by omega
          go_wp2_with (refine wpList_copy_at rfl _ _ rfl h (8 + p) (64 - p) (64 - p) b (o + k) n _ rfl rfl (hcells st rest L) 61 HX.out.1.row P (by rw [HX.out.2.2.1]; exact HX.out.2.2.2.2) HX.out.2.1 (by rw [hcells_size HX.out.1.st HX.out.1.rest, HX.out.2.2.1]; have := HX.out.2.2.2.1; omega) d HX.out.2.2.1 ?_; intro W1 hst; have H3 : HashAt W1 h st (splice rest p P) L := ⟨by have := hst.row; rwa [hcells_copy HX.out.1.st HX.out.1.rest (by rw [HX.out.2.2.1]; exact HX.out.2.2.2.1)] at this, HX.out.1.st, by rw [length_splice _ _ _ (by rw [HX.out.2.2.1, HX.out.1.rest]; exact HX.out.2.2.2.1)]; exact HX.out.1.rest⟩; have T1 := hid (Turn.of_stored hst); have c73 := H3.count; have f73 := H3.row.fz 72; have HH3 := hid H3; clear hst H3 c72)
          have HW2 : Hid (HashAt (W1.setCell ⟨h, 72, none⟩ (.int .i64 ((L : Int) + d))).drew h st (splice rest p P) (L + d)) := (set_count HH3.out).of_heap rfl
          have HT2 : Hid (Turn h w (W1.setCell ⟨h, 72, none⟩ (.int .i64 ((L : Int) + d))).drew) := ((HY.out.2.2.2.2.1.trans T1.out).setCell _ _).drew
          have HS2 : (Instr.loadAt 57 (.pointer (some ⟨h, 0, none⟩))).run Tryd.prog (W1.setCell ⟨h, 72, none⟩ (.int .i64 ((L : Int) + d))).drew = .ok (.agg (ws st)) (W1.setCell ⟨h, 72, none⟩ (.int .i64 ((L : Int) + d))).drew ∧ (Instr.loadAt 59 (.pointer (some ⟨h, 8, none⟩))).run Tryd.prog (W1.setCell ⟨h, 72, none⟩ (.int .i64 ((L : Int) + d))).drew = .ok (.agg (bsv (splice rest p P))) (W1.setCell ⟨h, 72, none⟩ (.int .i64 ((L : Int) + d))).drew := ⟨HW2.out.load_st, HW2.out.load_rest⟩
          refine wp_region_noPanic ?_
          refine any_begin 13 (by kernel_rfl) (by kernel_rfl) ?_
          refine any_take (i := 0) (some 38) rfl rfl (by kernel_rfl) (by kernel_rfl) (by kernel_rfl) (fun _ _ _ h => h) (by rfl) (v := ?v0) ?hy0 ?rest0
          case hy0 => intro w0; go_simp; try with_reducible rfl
          simp only [Act.put, List.setIfInBounds_toArray, List.set_cons_zero, List.set_cons_succ]
          refine any_take (i := 1) (some 39) rfl rfl (by kernel_rfl) (by kernel_rfl) (by kernel_rfl) (fun _ _ _ h => h) (by rfl) (v := ?v1) ?hy1 ?rest1
          case hy1 => intro w0; go_simp; try with_reducible rfl
          simp only [Act.put, List.setIfInBounds_toArray, List.set_cons_zero, List.set_cons_succ]
          refine any_take (i := 2) (some 40) rfl rfl (by kernel_rfl) (by kernel_rfl) (by kernel_rfl) (fun _ _ _ h => h) (by rfl) (v := ?v2) ?hy2 ?rest2
          case hy2 => intro w0; go_simp; try with_reducible rfl
          simp only [Act.put, List.setIfInBounds_toArray, List.set_cons_zero, List.set_cons_succ]
          refine any_take (i := 3) (some 41) rfl rfl (by kernel_rfl) (by kernel_rfl) (by kernel_rfl) (fun _ _ _ h => h) (by rfl) (v := ?v3) ?hy3 ?rest3
          case hy3 => intro w0; go_simp; try with_reducible rfl
          simp only [Act.put, List.setIfInBounds_toArray, List.set_cons_zero, List.set_cons_succ]
          refine any_take (i := 5) (some 43) rfl rfl (by kernel_rfl) (by kernel_rfl) (by kernel_rfl) (fun _ _ _ h => h) (by rfl) (v := ?v5) ?hy5 ?rest5
          case hy5 => intro w0; go_simp; try with_reducible rfl
          simp only [Act.put, List.setIfInBounds_toArray, List.set_cons_zero, List.set_cons_succ]
          refine any_take (i := 6) (some 44) rfl rfl (by kernel_rfl) (by kernel_rfl) (by kernel_rfl) (fun _ _ _ h => h) (by rfl) (v := ?v6) ?hy6 ?rest6
          case hy6 => intro w0; go_simp; try with_reducible rfl
          simp only [Act.put, List.setIfInBounds_toArray, List.set_cons_zero, List.set_cons_succ]
          refine any_take (i := 7) (some 45) rfl rfl (by kernel_rfl) (by kernel_rfl) (by kernel_rfl) (fun _ _ _ h => h) (by rfl) (v := ?v7) ?hy7 ?rest7
          case hy7 => intro w0; go_simp; try with_reducible rfl
          simp only [Act.put, List.setIfInBounds_toArray, List.set_cons_zero, List.set_cons_succ]
          refine late_begin (fun W => (Instr.loadAt 57 (.pointer (some ⟨h, 0, none⟩))).run Tryd.prog W = .ok (.agg (ws st)) W ∧ (Instr.loadAt 59 (.pointer (some ⟨h, 8, none⟩))).run Tryd.prog W = .ok (.agg (bsv (splice rest p P))) W) (fun j => decide (9 ≤ j)) HS2 (fun hS => ?_)
          refine late_take (i := 4) (some 42) rfl rfl (by kernel_rfl) (by kernel_rfl) (by kernel_rfl) (by kernel_rfl) (by kernel_rfl) (fun _ _ _ h => h) (by rfl) (v := .agg (ws st)) ?hy4 hS ?rest4
          case hy4 => intro w0 hSw; exact load_yields hSw.1 rfl rfl
          simp only [Act.put, List.setIfInBounds_toArray, List.set_cons_zero, List.set_cons_succ]
          refine late_take (i := 8) (some 46) rfl rfl (by kernel_rfl) (by kernel_rfl) (by kernel_rfl) (by kernel_rfl) (by kernel_rfl) (fun _ _ _ h => h) (by rfl) (v := .agg (bsv (splice rest p P))) ?hy8 hS ?rest8
          case hy8 => intro w0 hSw; exact load_yields hSw.2 rfl rfl
          simp only [Act.put, List.setIfInBounds_toArray, List.set_cons_zero, List.set_cons_succ]
          clear HS2
          refine late_tail 9 (by kernel_rfl) (fun _ _ _ _ _ h => h) (by kernel_rfl) (by kernel_rfl) (by kernel_rfl) ?_
          simp only [List.drop_succ_cons, List.drop_zero]
          go_wp2_with (first
            | (go_at_call 41; with_reducible refine (mixed_any st (splice rest p P) HW2.out.st HW2.out.rest _ (hK.turn HT2.out h0)).mono ?_; rintro e w3 ⟨rfl, hb3⟩; have HW3 := hid (HW2.out.below hb3); have HT3 := hid (HT2.out.trans (Turn.of_below hb3)); clear hb3 HW2 HT2 hS)
            | (refine wpList_store_st rfl _ _ rfl h (mixW st (splice rest p P)) rfl rfl HW3.out (mixW_len _ _ HW3.out.st) ?_; intro W4 H4 hs4; have HW4 := hid H4; have HT4 := hid (HT3.out.trans (Turn.of_stored hs4)); clear H4 hs4 HW3 HT3))
          refine NoPanic.normal ?_
          refine ⟨?_, ?measurea⟩
          refine ⟨_, _, _, _, _, _, _, _, _, _, _, _, _, _, _, _, _, _, _, _, _, _, _, _, _, _, _, _, _, _, _, _, _, _, _, _, _, _, _, _, _, _, _, _, _, ?rela, rfl⟩
          case rela =>
            refine ⟨k + d, _, n - d, _, rfl, by have := HZ.out; omega, by have := HZ.out; omega, by have := HZ.out; omega, fun _ => by have := HZ.out; omega, ?_, ?_⟩
            · exact write_full HY.out.2.2.2.1 HY.out.2.1 HY.out.2.2.1 HX.out.2.2.1 HY.out.1 hf HW4.out
            · exact HT4.out
          case measurea => show n - d < n; omega
        · have hf' : ¬ (p : Int) + d = 64 := by omega
          go_wp2_with (refine wpList_copy_at rfl _ _ rfl h (8 + p) (64 - p) (64 - p) b (o + k) n _ rfl rfl (hcells st rest L) 61 HX.out.1.row P (by rw [HX.out.2.2.1]; exact HX.out.2.2.2.2) HX.out.2.1 (by rw [hcells_size HX.out.1.st HX.out.1.rest, HX.out.2.2.1]; have := HX.out.2.2.2.1; omega) d HX.out.2.2.1 ?_; intro W1 hst; have H3 : HashAt W1 h st (splice rest p P) L := ⟨by have := hst.row; rwa [hcells_copy HX.out.1.st HX.out.1.rest (by rw [HX.out.2.2.1]; exact HX.out.2.2.2.1)] at this, HX.out.1.st, by rw [length_splice _ _ _ (by rw [HX.out.2.2.1, HX.out.1.rest]; exact HX.out.2.2.2.1)]; exact HX.out.1.rest⟩; have T1 := hid (Turn.of_stored hst); have c73 := H3.count; have f73 := H3.row.fz 72; have HH3 := hid H3; clear hst H3 c72)
          go_roundw
          case rel =>
            refine ⟨k + d, _, n - d, _, rfl, by have := HZ.out; omega, by have := HZ.out; omega, by have := HZ.out; omega, fun _ => by have := HZ.out; omega, ?_, ?_⟩
            · refine write_part HX.out.1 HY.out.2.2.2.1 HY.out.2.1 HY.out.2.2.1 HX.out.2.2.1 HY.out.1 (by have := HX.out; omega) HH3.out
            · exact (HY.out.2.2.2.2.1.trans T1.out).setCell _ _
          case measure => show n - d < n; omega
      · have hcd' : ¬ (c : Int) = d := by omega
        by_cases hf : p + d = 64
        · have hf' : (p : Int) + d = 64 := by omega
          go_wp2_with (refine wpList_copy_at rfl _ _ rfl h (8 + p) (64 - p) (64 - p) b (o + k) n _ rfl rfl (hcells st rest L) 61 HX.out.1.row P (by rw [HX.out.2.2.1]; exact HX.out.2.2.2.2) HX.out.2.1 (by rw [hcells_size HX.out.1.st HX.out.1.rest, HX.out.2.2.1]; have := HX.out.2.2.2.1; omega) d HX.out.2.2.1 ?_; intro W1 hst; have H3 : HashAt W1 h st (splice rest p P) L := ⟨by have := hst.row; rwa [hcells_copy HX.out.1.st HX.out.1.rest (by rw [HX.out.2.2.1]; exact HX.out.2.2.2.1)] at this, HX.out.1.st, by rw [length_splice _ _ _ (by rw [HX.out.2.2.1, HX.out.1.rest]; exact HX.out.2.2.2.1)]; exact HX.out.1.rest⟩; have T1 := hid (Turn.of_stored hst); have c73 := H3.count; have f73 := H3.row.fz 72; have HH3 := hid H3; clear hst H3 c72)
          have HW2 : Hid (HashAt (W1.setCell ⟨h, 72, none⟩ (.int .i64 ((L : Int) + d))).drew h st (splice rest p P) (L + d)) := (set_count HH3.out).of_heap rfl
          have HT2 : Hid (Turn h w (W1.setCell ⟨h, 72, none⟩ (.int .i64 ((L : Int) + d))).drew) := ((HY.out.2.2.2.2.1.trans T1.out).setCell _ _).drew
          have HS2 : (Instr.loadAt 57 (.pointer (some ⟨h, 0, none⟩))).run Tryd.prog (W1.setCell ⟨h, 72, none⟩ (.int .i64 ((L : Int) + d))).drew = .ok (.agg (ws st)) (W1.setCell ⟨h, 72, none⟩ (.int .i64 ((L : Int) + d))).drew ∧ (Instr.loadAt 59 (.pointer (some ⟨h, 8, none⟩))).run Tryd.prog (W1.setCell ⟨h, 72, none⟩ (.int .i64 ((L : Int) + d))).drew = .ok (.agg (bsv (splice rest p P))) (W1.setCell ⟨h, 72, none⟩ (.int .i64 ((L : Int) + d))).drew := ⟨HW2.out.load_st, HW2.out.load_rest⟩
          refine wp_region_noPanic ?_
          refine any_begin 13 (by kernel_rfl) (by kernel_rfl) ?_
          refine any_take (i := 0) (some 38) rfl rfl (by kernel_rfl) (by kernel_rfl) (by kernel_rfl) (fun _ _ _ h => h) (by rfl) (v := ?v0b) ?hy0b ?rest0b
          case hy0b => intro w0; go_simp; try with_reducible rfl
          simp only [Act.put, List.setIfInBounds_toArray, List.set_cons_zero, List.set_cons_succ]
          refine any_take (i := 1) (some 39) rfl rfl (by kernel_rfl) (by kernel_rfl) (by kernel_rfl) (fun _ _ _ h => h) (by rfl) (v := ?v1b) ?hy1b ?rest1b
          case hy1b => intro w0; go_simp; try with_reducible rfl
          simp only [Act.put, List.setIfInBounds_toArray, List.set_cons_zero, List.set_cons_succ]
          refine any_take (i := 2) (some 40) rfl rfl (by kernel_rfl) (by kernel_rfl) (by kernel_rfl) (fun _ _ _ h => h) (by rfl) (v := ?v2b) ?hy2b ?rest2b
          case hy2b => intro w0; go_simp; try with_reducible rfl
          simp only [Act.put, List.setIfInBounds_toArray, List.set_cons_zero, List.set_cons_succ]
          refine any_take (i := 3) (some 41) rfl rfl (by kernel_rfl) (by kernel_rfl) (by kernel_rfl) (fun _ _ _ h => h) (by rfl) (v := ?v3b) ?hy3b ?rest3b
          case hy3b => intro w0; go_simp; try with_reducible rfl
          simp only [Act.put, List.setIfInBounds_toArray, List.set_cons_zero, List.set_cons_succ]
          refine any_take (i := 5) (some 43) rfl rfl (by kernel_rfl) (by kernel_rfl) (by kernel_rfl) (fun _ _ _ h => h) (by rfl) (v := ?v5b) ?hy5b ?rest5b
          case hy5b => intro w0; go_simp; try with_reducible rfl
          simp only [Act.put, List.setIfInBounds_toArray, List.set_cons_zero, List.set_cons_succ]
          refine any_take (i := 6) (some 44) rfl rfl (by kernel_rfl) (by kernel_rfl) (by kernel_rfl) (fun _ _ _ h => h) (by rfl) (v := ?v6b) ?hy6b ?rest6b
          case hy6b => intro w0; go_simp; try with_reducible rfl
          simp only [Act.put, List.setIfInBounds_toArray, List.set_cons_zero, List.set_cons_succ]
          refine any_take (i := 7) (some 45) rfl rfl (by kernel_rfl) (by kernel_rfl) (by kernel_rfl) (fun _ _ _ h => h) (by rfl) (v := ?v7b) ?hy7b ?rest7b
          case hy7b => intro w0; go_simp; try with_reducible rfl
          simp only [Act.put, List.setIfInBounds_toArray, List.set_cons_zero, List.set_cons_succ]
          refine late_begin (fun W => (Instr.loadAt 57 (.pointer (some ⟨h, 0, none⟩))).run Tryd.prog W = .ok (.agg (ws st)) W ∧ (Instr.loadAt 59 (.pointer (some ⟨h, 8, none⟩))).run Tryd.prog W = .ok (.agg (bsv (splice rest p P))) W) (fun j => decide (9 ≤ j)) HS2 (fun hS => ?_)
          refine late_take (i := 4) (some 42) rfl rfl (by kernel_rfl) (by kernel_rfl) (by kernel_rfl) (by kernel_rfl) (by kernel_rfl) (fun _ _ _ h => h) (by rfl) (v := .agg (ws st)) ?hy4b hS ?rest4b
          case hy4b => intro w0 hSw; exact load_yields hSw.1 rfl rfl
          simp only [Act.put, List.setIfInBounds_toArray, List.set_cons_zero, List.set_cons_succ]
          refine late_take (i := 8) (some 46) rfl rfl (by kernel_rfl) (by kernel_rfl) (by kernel_rfl) (by kernel_rfl) (by kernel_rfl) (fun _ _ _ h => h) (by rfl) (v := .agg (bsv (splice rest p P))) ?hy8b hS ?rest8b
          case hy8b => intro w0 hSw; exact load_yields hSw.2 rfl rfl
          simp only [Act.put, List.setIfInBounds_toArray, List.set_cons_zero, List.set_cons_succ]
          clear HS2
          refine late_tail 9 (by kernel_rfl) (fun _ _ _ _ _ h => h) (by kernel_rfl) (by kernel_rfl) (by kernel_rfl) ?_
          simp only [List.drop_succ_cons, List.drop_zero]
          go_wp2_with (first
            | (go_at_call 41; with_reducible refine (mixed_any st (splice rest p P) HW2.out.st HW2.out.rest _ (hK.turn HT2.out h0)).mono ?_; rintro e w3 ⟨rfl, hb3⟩; have HW3 := hid (HW2.out.below hb3); have HT3 := hid (HT2.out.trans (Turn.of_below hb3)); clear hb3 HW2 HT2 hS)
            | (refine wpList_store_st rfl _ _ rfl h (mixW st (splice rest p P)) rfl rfl HW3.out (mixW_len _ _ HW3.out.st) ?_; intro W4 H4 hs4; have HW4 := hid H4; have HT4 := hid (HT3.out.trans (Turn.of_stored hs4)); clear H4 hs4 HW3 HT3))
          refine NoPanic.normal ?_
          refine ⟨?_, ?measureb⟩
          refine ⟨_, _, _, _, _, _, _, _, _, _, _, _, _, _, _, _, _, _, _, _, _, _, _, _, _, _, _, _, _, _, _, _, _, _, _, _, _, _, _, _, _, _, _, _, _, ?relb, rfl⟩
          case relb =>
            refine ⟨k + d, _, n - d, _, rfl, by have := HZ.out; omega, by have := HZ.out; omega, by have := HZ.out; omega, fun _ => by have := HZ.out; omega, ?_, ?_⟩
            · exact write_full HY.out.2.2.2.1 HY.out.2.1 HY.out.2.2.1 HX.out.2.2.1 HY.out.1 hf HW4.out
            · exact HT4.out
          case measureb => show n - d < n; omega
        · have hf' : ¬ (p : Int) + d = 64 := by omega
          go_wp2_with (refine wpList_copy_at rfl _ _ rfl h (8 + p) (64 - p) (64 - p) b (o + k) n _ rfl rfl (hcells st rest L) 61 HX.out.1.row P (by rw [HX.out.2.2.1]; exact HX.out.2.2.2.2) HX.out.2.1 (by rw [hcells_size HX.out.1.st HX.out.1.rest, HX.out.2.2.1]; have := HX.out.2.2.2.1; omega) d HX.out.2.2.1 ?_; intro W1 hst; have H3 : HashAt W1 h st (splice rest p P) L := ⟨by have := hst.row; rwa [hcells_copy HX.out.1.st HX.out.1.rest (by rw [HX.out.2.2.1]; exact HX.out.2.2.2.1)] at this, HX.out.1.st, by rw [length_splice _ _ _ (by rw [HX.out.2.2.1, HX.out.1.rest]; exact HX.out.2.2.2.1)]; exact HX.out.1.rest⟩; have T1 := hid (Turn.of_stored hst); have c73 := H3.count; have f73 := H3.row.fz 72; have HH3 := hid H3; clear hst H3 c72)
          go_roundw
          case rel =>
            refine ⟨k + d, _, n - d, _, rfl, by have := HZ.out; omega, by have := HZ.out; omega, by have := HZ.out; omega, fun _ => by have := HZ.out; omega, ?_, ?_⟩
            · refine write_part HX.out.1 HY.out.2.2.2.1 HY.out.2.1 HY.out.2.2.1 HX.out.2.2.1 HY.out.1 (by have := HX.out; omega) HH3.out
            · exact (HY.out.2.2.2.2.1.trans T1.out).setCell _ _
          case measure => show n - d < n; omega
    · have hn0 : n = 0 := by omega
      have hlt' : ¬ (0 : Int) < n := by omega
      have hk : k = N := by omega
      obtain ⟨hP1, hP2⟩ := HP.out
      rw [hk, ← hN, List.take_length] at hP1
      go_wp2
      refine bodyPost_end (results_none rfl _ _ _) rfl ?_
      exact ⟨rfl, hP1, hP2⟩
end Go.Proofs.YtojcaoieodogdaaDoor
