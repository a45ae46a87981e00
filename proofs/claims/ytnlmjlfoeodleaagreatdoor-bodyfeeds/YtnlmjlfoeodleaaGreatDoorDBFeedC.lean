/- The document's reader of bodies: Feed of a body up to the end. -/
import Derived.Test.YtnlmjlfoeodleaaGreatDoorDBNewP
namespace Go.Proofs.YtnlmjlfoeodleaaGreatDoor
open Go.RowKit

set_option maxRecDepth 20000 in
set_option maxHeartbeats 16000000 in
theorem dbf_3 (N m : Int) (s : BS) (d : DK) (lp tp : Option Addr) (ln lc tn tc : Nat) (l : B) (p : Option Addr) (n c : Nat) (hn : l.length = n) (w : World) (hl : d.line.length = ln) (ht : d.tr.length = tn) (hA : DkAt w d lp lc tp tc) (ha : ArgAt w p l) (hnl : n ≤ 140737488351232) (hi : InvX s) (hR : RelB 3 N m s d) (hv : overX s = false) (hk : s.kind = 3) (hm : m = -1 → n ≤ s.room) : Calls Tryz.prog 11 #[.agg (bdV 3 N m s d (.slice lp ln lc) (.slice tp tn tc)), .slice p n c] w (DFedB 3 N m s d l w) := by
  have hdk : fedDK s d l = d := by unfold fedDK; rw [if_neg (fun h9 => by omega)]
  obtain ⟨hd0, he0⟩ := over_no hv
  have hnil := hR.nl (by omega)
  obtain ⟨f1, f2, f3⟩ := fed_3 hv (by omega) (by omega) l
  have hM : ∀ i : Nat, i ≤ n → (((s.told : Int) + (i : Int) == m) = true ↔ i = s.room ∧ m ≠ -1) := by
    intro i hin
    rw [beq_iff_eq]
    rcases hR.k3 hk with ⟨h1, h2⟩ | h1
    · omega
    · omega
  have hsm : s.told + s.room ≤ 9223372036854775807 := hi.room (by omega)
  have HS := hid (BFS.start (bdV 3 N m s d (.slice lp ln lc) (.slice tp tn tc)) hA)
  have HL := hid hl
  have HTn := hid ht
  have HA := hid ha
  have HN := hid hn
  have HNl := hid hnl
  have HNil := hid hnil
  have HDk := hid hdk
  have HBl := hid (fun (W : World) (hb : Below w.heap.size w W) (i : Nat) (y : UInt8) (hy : l[i]? = some y) => (ha.next hb) i y hy)
  obtain ⟨i0, hi0, hz0, hz1, hz2⟩ := info_parts infoB
  obtain ⟨T, hT⟩ : ∃ T, s.told = T := ⟨_, rfl⟩
  obtain ⟨R, hR2⟩ : ∃ R, s.room = R := ⟨_, rfl⟩
  rw [hR2] at f1 f2 f3 hsm hM hm
  rw [hT] at hsm hM
  have HT := hid hT
  have HR2 := hid hR2
  have HF1 := hid f1
  have HF2 := hid f2
  have HF3 := hid f3
  have HSm := hid hsm
  have HM := hid hM
  have HHm := hid hm
  obtain ⟨most, len, st, e0, digits, size, more, line, bytes, tr, gh⟩ := d
  unfold bdV at HS ⊢
  rw [hd0, he0, hT] at HS ⊢
  rw [show ((0 : Nat) : Int) = 0 from rfl] at HS ⊢
  clear hn hl ht hA ha hnl hi hR hv hdk hd0 he0 hnil f1 f2 f3 hsm hT hR2 hM hm
  go_enter Tryz.func11, Tryz.ntmps11
  go_wp2
  go_loopg [12, 13] (n + 1) (fun gk s12 s13 wr => ∃ i : Nat, s13 = .int .i64 (i : Int) ∧ i ≤ n ∧ gk = n - i + 1 ∧ (i ≤ R) ∧ BFS w wr #[.int .i64 3, .int .i64 N, .int .i64 m, .int .i64 ((T : Int) + (i : Int)), .bool false, .int .i64 0, .int .i64 (most : Int), .int .i64 (len : Int), .int .i64 (st : Int), .int .i64 (e0 : Int), .int .i64 (digits : Int), .int .i64 (size : Int), .int .i64 (more : Int), .slice lp ln lc, .int .i64 (bytes : Int), .slice tp tn tc] ⟨most, len, st, e0, digits, size, more, line, bytes, tr, gh⟩ lp lc tp tc s12 (l.take i))
  case atStart => exact ⟨0, rfl, by omega, rfl, by omega, by rw [show (T : Int) + ((0 : Nat) : Int) = (T : Int) from by omega]; exact HS.out⟩
  case round =>
    obtain ⟨i, rfl, hin, rfl, hir, hD⟩ := hrel
    rename World => wr
    obtain ⟨q, mm, dd, rfl⟩ := own_slice3 hD.out
    have HXm := hid (show (l.take i).length = mm from slice_part hD.out)
    have hmi : mm = i := by rw [← HXm.out, List.length_take, HN.out]; omega
    have Hml := hid (show mm + 1 ≤ 140737488351233 from by have h7 := HNl.out; omega)
    have HMi := hid hmi
    have HD := hid hD
    obtain ⟨k0, k1, k2, k3, k4, k5, k6, k7, k8, k9, k10, k11, k12, k13, k14, k15, _⟩ := cells16 hD.b1
    have HWi := hid (show wrap64 ((i : Int) + 1) = (i : Int) + 1 from by unfold wrap64; have h7 := HNl.out; omega)
    have hwi2 : IntKind.i64.wrap ((i : Int) + 1) = (i : Int) + 1 := by rw [IntKind.wrap_i64]; have h8 := HNl.out; omega
    clear hD hmi
    by_cases hlt : i < n
    · obtain ⟨y, hy⟩ : ∃ y, l[i]? = some y := ⟨l[i]'(by rw [HN.out]; exact hlt), List.getElem?_eq_getElem (by rw [HN.out]; exact hlt)⟩
      have hltI : (i : Int) < (n : Int) := by omega
      obtain ⟨ag, ao, hap, hac0⟩ := HBl.out w (Below.refl _ _) i y hy
      have HBy := hid (fun (W : World) (hb : Below w.heap.size w W) => cell_keep hb hac0)
      subst hap
      have hac := HBy.out wr HD.out.low
      have HTk := hid (take_snocB hy)
      clear hy hac0
      by_cases hlast : i = R ∧ m ≠ -1
      · have hq : ((T : Int) + (i : Int) == m) = true := (HM.out i hin).2 hlast
        go_wp2_with (first | (refine wpList_store_b5 rfl (.tmp 68) (.const (.int .i64 33)) rfl w.heap.size (by go_simp) 33 (by go_simp) HD.out.b1 ?_; intro V hV hO hZ; have H7 := hid (BFS.box HD.out hV hO (dk_any HD.out.rows HNil.out hO.size)); clear hV hO hZ k0 k1 k2 k3 k4 k5 k6 k7 k8 k9 k10 k11 k12 k13 k14 k15; obtain ⟨p0, p1, p2, p3, p4, p5, p6, p7, p8, p9, p10, p11, p12, p13, p14, p15, _⟩ := cells16 H7.out.b1) | (refine wpList_store_bd rfl (.tmp 4) (.tmp 69) rfl (w.heap.size + 1) (by go_simp) 3 N m ((T : Int) + (i : Int)) false 33 (most : Int) (len : Int) (st : Int) (e0 : Int) (digits : Int) (size : Int) (more : Int) (bytes : Int) lp tp ln tn lc tc (by go_simp) H7.out.b2 ?_; intro U hU hO hZ; have HU := hid hU; have HO := hid (bfs_out H7.out hO (zz_free H7.out) rfl); clear hU hO hZ))
        (try go_wp2)
        refine bodyPost_ret (results_bd3 rfl _ _ _ 37 _ (0, 0) rfl HU.out rfl) rfl ?_
        obtain ⟨r1, r2, r3⟩ := HO.out
        exact dbf_fin r1 r2 r3 HL.out HTn.out HDk.out (by rw [HF1.out, HN.out, HT.out, if_pos (show R < n by omega)]; (first | done | (unfold bdV; dsimp only; rw [show T + min n R = T + i by omega]; (first | done | (push_cast; rfl) | rfl)))) (by rw [HF2.out, HN.out, if_pos (show R < n by omega), ← hlast.1]; (try rw [HWi.out]); (first | done | (push_cast; rfl) | rfl)) (by rw [HF3.out, ← hlast.1])
      · have hq : ((T : Int) + (i : Int) == m) = false := by
          cases hb : ((T : Int) + (i : Int) == m) with
          | false => rfl
          | true => exact absurd ((HM.out i hin).1 hb) hlast
        have hiR : i < R := by by_cases h5 : m = -1; (have := HHm.out h5; omega); (by_cases h6 : i = R; (exact absurd ⟨h6, h5⟩ hlast); omega)
        have hwT : IntKind.i64.wrap ((T : Int) + (i : Int) + 1) = (T : Int) + (i : Int) + 1 := by rw [IntKind.wrap_i64]; have h7 := HSm.out; omega
        clear hlast
        go_wp2_with (first | (at_builtin; refine wpList_append_own_at _ rfl (.tmp 73) (.tmp 78) 32 rfl (w.heap.size + 2) 5 i0 _ 1 1 Tryz.underlying32 hi0 hz0 hz1 hz2 rfl (by decide) (.slice q mm dd) mm (Lib.byteCells (l.take i)) (by go_simp) (by have h8 := HD.out.out.keep (below_new wr (.cells #[.int .u8 (y.toNat : Int)] 5 (0, 0))); unfold Own at h8; rw [HXm.out] at h8; exact h8) ⟨wr.heap.size, 0, none⟩ 1 1 [.int .u8 (y.toNat : Int)] (by go_simp) rfl (cells_new wr _ _) (by simp [Value.oneCell']) (by unfold maxLen; have := Hml.out; omega) (by have := Hml.out; omega) (Nat.le_trans HD.out.sz (by simp)) ?_; intro v' w9 hown hgr _ _; have H6 := hid (BFS.grow (y := y) (v' := v') HD.out HNil.out HXm.out hgr hown); obtain ⟨q6, c6, rfl⟩ := own_slice hown; rw [← HTk.out] at H6; clear hown hgr k0 k1 k2 k3 k4 k5 k6 k7 k8 k9 k10 k11 k12 k13 k14 k15 hac; obtain ⟨j0, j1, j2, j3, j4, j5, j6, j7, j8, j9, j10, j11, j12, j13, j14, j15, _⟩ := cells16 H6.out.b1) | (refine wpList_store_b3 rfl (.tmp 83) (.tmp 82) rfl w.heap.size (by go_simp) ((T : Int) + (i : Int) + 1) (by go_simp) H6.out.b1 ?_; intro V hV hO hZ; have H7 := hid (BFS.box H6.out hV hO (dk_any H6.out.rows HNil.out hO.size)); clear hV hO hZ H6 j0 j1 j2 j3 j4 j5 j6 j7 j8 j9 j10 j11 j12 j13 j14 j15; obtain ⟨p0, p1, p2, p3, p4, p5, p6, p7, p8, p9, p10, p11, p12, p13, p14, p15, _⟩ := cells16 H7.out.b1))
        go_roundg (n - (i + 1) + 1)
        case measure => omega
        case rel => exact ⟨i + 1, by first | go_num | (rw [HWi.out]; push_cast; rfl), by omega, by omega, by omega, by have h9 := H7.out; rw [Int.add_assoc] at h9; exact h9⟩
    · obtain rfl : i = n := by omega
      have hltI : ¬ (i : Int) < (i : Int) := by omega
      clear hlt
      go_wp2_with (refine wpList_store_bd rfl (.tmp 4) (.tmp 101) rfl (w.heap.size + 1) (by go_simp) 3 N m ((T : Int) + (i : Int)) false 0 (most : Int) (len : Int) (st : Int) (e0 : Int) (digits : Int) (size : Int) (more : Int) (bytes : Int) lp tp ln tn lc tc (by go_simp) HD.out.b2 ?_; intro U hU hO hZ; have HU := hid hU; have HO := hid (bfs_out HD.out hO (zz_free HD.out) rfl); clear hU hO hZ)
      (try go_wp2)
      refine bodyPost_ret (results_bd3 rfl _ _ _ 37 _ (0, 0) rfl HU.out rfl) rfl ?_
      obtain ⟨r1, r2, r3⟩ := HO.out
      exact dbf_fin r1 r2 r3 HL.out HTn.out HDk.out (by rw [HF1.out, HN.out, HT.out, if_neg (show ¬ R < i by omega)]; (first | done | (unfold bdV; dsimp only; rw [show T + min i R = T + i by omega]; (first | done | (push_cast; rfl) | rfl)))) (by rw [HF2.out, HN.out, if_neg (show ¬ R < i by omega)]) (by rw [HF3.out, List.take_of_length_le (by rw [HN.out]; omega), List.take_of_length_le (by rw [HN.out]; omega)])
end Go.Proofs.YtnlmjlfoeodleaaGreatDoor
