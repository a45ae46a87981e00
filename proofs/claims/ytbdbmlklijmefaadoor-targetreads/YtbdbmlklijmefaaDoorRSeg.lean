/- Rows of texts of one's own; what stands behind each slash. -/
import Derived.Test.YtbdbmlklijmefaaDoorRMeant
namespace Go.Proofs.YtbdbmlklijmefaaDoor
open Go.RowKit

def strC (ns : List B) : List Value := ns.map fun t => .string (str t)
/-- A row of texts of one's own. -/
def OwnS (w : World) (base : Nat) (v : Value) (ns : List B) : Prop := w.ownsRow base 9 1 v ns.length (strC ns)
theorem OwnS.nil (w : World) (base : Nat) : OwnS w base (.slice none 0 0) [] := ⟨rfl, .inl ⟨rfl, rfl⟩⟩
theorem OwnS.put {w' : World} {base : Nat} {v' : Value} {acc : List B} {t : B} (h : w'.ownsRow base 9 1 v' (acc.length + 1) (strC acc ++ [.string (str t)])) : OwnS w' base v' (acc ++ [t]) := by
  unfold OwnS
  rw [List.length_append, show strC (acc ++ [t]) = strC acc ++ [.string (str t)] from by simp [strC]]
  exact h
theorem OwnS.below {w w' : World} {base : Nat} {v : Value} {acc : List B} (h : OwnS w base v acc) (hb : base ≤ w.heap.size) (hg : w.grownBy w' v.ownBlock) : Below base w w' :=
  ⟨hg.os, hg.tape, hg.output, hg.size, fun k hk => hg.block k (by omega) (fun e => own_ne h hk e.symm)⟩
theorem OwnS.keep {w w' : World} {base : Nat} {v : Value} {acc : List B} (h : OwnS w base v acc) (hb : Below w.heap.size w w') : OwnS w' base v acc := by
  refine ⟨h.1, ?_⟩
  rcases h.2 with h1 | ⟨g, cap, cur, h1, h2, h3, h4⟩
  · exact .inl h1
  · exact .inr ⟨g, cap, cur, h1, h2, (hb.block g (lt_of_heap h3)).trans h3, h4⟩
theorem OwnS.alloc {w : World} {base : Nat} {v : Value} {acc : List B} (h : OwnS w base v acc) (o : Obj) : OwnS (w.alloc o) base v acc := h.keep (below_new w o)
theorem infoS : (Tryd.prog.info? 9).map (fun i => (i.zero, i.size, i.bytes)) = some (some (.string ⟨#[]⟩), 1, 16) := by kernel_rfl
/-- What stands behind each slash, from the left. -/
def segsL : B → List B
  | [] => []
  | c :: l => if c = 47 then l.takeWhile (fun y => decide (y ≠ 47)) :: segsL l else segsL l
theorem cutAt_segs : ∀ l : B, cutAt 47 l = l.takeWhile (fun y => decide (y ≠ 47)) :: segsL l
  | [] => rfl
  | b :: l => by
    have ih := cutAt_segs l
    by_cases h : b = 47
    · simp only [cutAt, segsL, if_pos h]
      rw [ih, List.takeWhile_cons, if_neg (by simp [h])]
    · simp only [cutAt, segsL, if_neg h]
      rw [ih, List.takeWhile_cons, if_pos (by simp [h])]
theorem segs_eq (l : B) : segs l = segsL l := by
  unfold segs
  rw [cutAt_segs]
  rfl
theorem tw_at {l : B} {m : Nat} (h : ∀ y ∈ l.take m, y ≠ 47) (he : l.length ≤ m ∨ l[m]? = some 47) : l.takeWhile (fun y => decide (y ≠ 47)) = l.take m := by
  induction m generalizing l with
  | zero =>
    cases l with
    | nil => rfl
    | cons b l =>
      rcases he with he | he
      · simp at he
      · simp at he
        rw [List.takeWhile_cons, if_neg (by simp [he])]
        rfl
  | succ m ih =>
    cases l with
    | nil => rfl
    | cons b l =>
      rw [List.takeWhile_cons, if_pos (by simpa using h b (by simp)), List.take_succ_cons]
      congr 1
      refine ih (fun y hy => h y (by simp [hy])) ?_
      rcases he with he | he
      · left; simp at he; omega
      · right; simpa using he
theorem segsL_len : ∀ l : B, (segsL l).length ≤ l.length
  | [] => Nat.le_refl _
  | c :: l => by
    have := segsL_len l
    unfold segsL
    split <;> simp <;> omega
set_option maxRecDepth 20000 in
set_option maxHeartbeats 8000000 in
theorem rsegments_any (s : B) (hs : s.length ≤ 4398046511104) (w : World) : Calls Tryd.prog 39 #[.string (str s)] w fun e w' => ∃ p c, e = .returned (.slice p (segs s).length c) ∧ OwnS w' w.heap.size (.slice p (segs s).length c) (segs s) ∧ Below w.heap.size w w' := by
  obtain ⟨j0, hj0, hy0, hy1, hy2⟩ := info_parts infoS
  obtain ⟨n, hn⟩ : ∃ n, s.length = n := ⟨_, rfl⟩
  have HN := hid hn
  obtain ⟨S, hS⟩ : ∃ S, str s = S := ⟨_, rfl⟩
  have hSn : S.size = n := by rw [← hS, str_size, hn]
  have HByte := hid (show ∀ (k : Nat) (h : k < s.length) (h2 : k < S.size), S[k]'h2 = s[k]'h from fun k h h2 => by subst hS; rfl)
  have HEx := hid (ext_str s)
  obtain ⟨R, hR0⟩ : ∃ R, segs s = R := ⟨_, rfl⟩
  have HR0 := hid (show segsL s = R from (segs_eq s).symm.trans hR0)
  rw [hS] at HEx
  rw [hn] at hs
  rw [hS, hR0]
  clear hn hS hR0
  go_enter Tryd.func39, Tryd.ntmps39
  go_wp2
  go_loopg [3, 4] (n + 1) (fun gk s3 s4 wr => ∃ i : Nat, i ≤ n ∧ gk = n - i + 1 ∧ s4 = .int .i64 (i : Int) ∧ ∃ acc : List B, OwnS wr w.heap.size s3 acc ∧ acc.length ≤ i ∧ R = acc ++ segsL (s.drop i) ∧ Below w.heap.size w wr)
  case atStart => exact ⟨0, by omega, rfl, rfl, [], OwnS.nil w _, by simp, by rw [← HR0.out]; simp, Below.refl _ _⟩
  case round =>
    obtain ⟨i, hi, rfl, rfl, acc, ho, hln0, hR, hb⟩ := hrel
    have HB := hid hb
    have HR := hid hR
    obtain ⟨ln, hln⟩ : ∃ ln, acc.length = ln := ⟨_, rfl⟩
    have HLe := hid hln
    obtain ⟨p, c0, rfl⟩ := own_slice ho
    have HO := hid ho
    rw [hln] at HO hln0 ⊢
    clear ho hb hln hR
    by_cases hin : i < n
    · have hi1 : i < s.length := by rw [HN.out]; exact hin
      obtain ⟨y, hy⟩ : ∃ y, s[i] = y := ⟨_, rfl⟩
      obtain ⟨Y, hY⟩ : ∃ Y : Nat, y.toNat = Y := ⟨_, rfl⟩
      have hY256 : Y < 256 := by rw [← hY]; exact y.toNat_lt
      have hbyte : ∀ h : i < S.size, (S[i]'h).toNat = Y := fun h => by rw [HByte.out i hi1 h, hy, hY]
      have HD := hid (show s.drop i = y :: s.drop (i + 1) from by rw [List.drop_eq_getElem_cons hi1, hy])
      rw [HD.out] at HR
      clear hy hi1
      by_cases hc : y = 47
      · obtain rfl : Y = 47 := by rw [← hY, hc]; rfl
        have HSt := hid (show R = acc ++ [(s.drop (i + 1)).takeWhile (fun y => decide (y ≠ 47))] ++ segsL (s.drop (i + 1)) from by rw [HR.out, segsL, if_pos hc]; simp)
        clear hc hY
        go_wp2
        go_loopg [5] (n - (i + 1) + 1) (fun gk s5 wr2 => ∃ k : Nat, i + 1 ≤ k ∧ k ≤ n ∧ gk = n - k + 1 ∧ s5 = .int .i64 (k : Int) ∧ (∀ y ∈ (s.drop (i + 1)).take (k - (i + 1)), y ≠ 47) ∧ wr2 = wr)
        case atStart => exact ⟨i + 1, by omega, by omega, rfl, by push_cast; rfl, fun y hy => by simp at hy, rfl⟩
        case round =>
          obtain ⟨k, hk1, hk2, rfl, rfl, hno, rfl⟩ := hrel
          have HNo := hid hno
          clear hno
          have HIx := hid (show ∀ h : k < s.length, (s.drop (i + 1))[k - (i + 1)]? = some s[k] from fun h => by
            rw [List.getElem?_drop, show i + 1 + (k - (i + 1)) = k by omega, List.getElem?_eq_getElem h])
          have hext : S.extract (i + 1) k = str ((s.drop (i + 1)).take (k - (i + 1))) := HEx.out (i + 1) k
          by_cases hkn : k < n
          · have hk3 : k < s.length := by rw [HN.out]; exact hkn
            obtain ⟨z, hz⟩ : ∃ z, s[k] = z := ⟨_, rfl⟩
            obtain ⟨Z, hZ⟩ : ∃ Z : Nat, z.toNat = Z := ⟨_, rfl⟩
            have hZ256 : Z < 256 := by rw [← hZ]; exact z.toNat_lt
            have hbyte2 : ∀ h : k < S.size, (S[k]'h).toNat = Z := fun h => by rw [HByte.out k hk3 h, hz, hZ]
            have HIz := hid (HIx.out hk3)
            rw [hz] at HIz
            clear hz hk3
            by_cases hzc : z = 47
            · obtain rfl : Z = 47 := by rw [← hZ, hzc]; rfl
              have HNx := hid (show R = acc ++ [(s.drop (i + 1)).take (k - (i + 1))] ++ segsL (s.drop (i + 1)) from by rw [HSt.out, tw_at HNo.out (.inr (by rw [HIz.out, hzc]))])
              clear hzc hZ
              go_wp2_with (at_builtin; refine wpList_append_own_at _ rfl (.tmp 30) (.tmp 36) 41 rfl w.heap.size 9 j0 _ 1 16 Tryd.underlying41 hj0 hy0 hy1 hy2 rfl (by decide) (.slice p ln c0) ln (strC acc) (by go_simp) (by have h8 := HO.out.alloc (.cells #[.string (str ((s.drop (i + 1)).take (k - (i + 1))))] 9 (0, 0)); unfold OwnS at h8; rw [HLe.out] at h8; exact h8) ⟨wr.heap.size, 0, none⟩ 1 1 [.string (str ((s.drop (i + 1)).take (k - (i + 1))))] (by go_simp) rfl (cells_new wr _ _) (by simp [Value.oneCell']) (by unfold maxLen; omega) (by omega) (Nat.le_trans HB.out.size (below_new _ _).size) ?_; intro v' w' hown hgr _ _; obtain ⟨p7, L7, c7, rfl⟩ := own_slice3 hown; have HB2 := hid (HB.out.trans (((below_new wr (.cells #[.string (str ((s.drop (i + 1)).take (k - (i + 1))))] 9 (0, 0))).mono HB.out.size).trans (OwnS.below (HO.out.alloc (.cells #[.string (str ((s.drop (i + 1)).take (k - (i + 1))))] 9 (0, 0))) (Nat.le_trans HB.out.size (below_new _ _).size) hgr))); have HW := hid (OwnS.put (acc := acc) (t := (s.drop (i + 1)).take (k - (i + 1))) (by rw [HLe.out]; exact hown)); clear hown hgr)
              go_roundg (n - (i + 1) + 1)
              case measure => omega
              case rel => exact ⟨i + 1, by omega, rfl, by push_cast; go_num, _, HW.out, by rw [List.length_append, HLe.out]; simp; omega, HNx.out, HB2.out⟩
            · have z1 : ¬ (Z : Int) = 47 := fun e => hzc (UInt8.toNat_inj.1 (by rw [hZ]; show Z = 47; omega))
              have z2 : ((Z : Int) == 47) = false := by simpa using z1
              have HNy := hid (show ∀ y ∈ (s.drop (i + 1)).take (k + 1 - (i + 1)), y ≠ 47 from fun y hy => by
                rw [show k + 1 - (i + 1) = k - (i + 1) + 1 by omega, List.take_add_one, HIz.out] at hy
                rcases List.mem_append.1 hy with hy | hy
                · exact HNo.out y hy
                · simp at hy
                  rw [hy]
                  exact hzc)
              clear hzc hZ
              go_wp2
              go_roundg (n - (k + 1) + 1)
              case measure => omega
              case rel => exact ⟨k + 1, by omega, by omega, rfl, by push_cast; go_num, HNy.out, rfl⟩
          · obtain rfl : n = k := by omega
            have HNx := hid (show R = acc ++ [(s.drop (i + 1)).take (n - (i + 1))] ++ segsL (s.drop (i + 1)) from by rw [HSt.out, tw_at HNo.out (.inl (by rw [List.length_drop, HN.out]; exact Nat.le_refl _))])
            go_wp2_with (at_builtin; refine wpList_append_own_at _ rfl (.tmp 30) (.tmp 36) 41 rfl w.heap.size 9 j0 _ 1 16 Tryd.underlying41 hj0 hy0 hy1 hy2 rfl (by decide) (.slice p ln c0) ln (strC acc) (by go_simp) (by have h8 := HO.out.alloc (.cells #[.string (str ((s.drop (i + 1)).take (n - (i + 1))))] 9 (0, 0)); unfold OwnS at h8; rw [HLe.out] at h8; exact h8) ⟨wr.heap.size, 0, none⟩ 1 1 [.string (str ((s.drop (i + 1)).take (n - (i + 1))))] (by go_simp) rfl (cells_new wr _ _) (by simp [Value.oneCell']) (by unfold maxLen; omega) (by omega) (Nat.le_trans HB.out.size (below_new _ _).size) ?_; intro v' w' hown hgr _ _; obtain ⟨p7, L7, c7, rfl⟩ := own_slice3 hown; have HB2 := hid (HB.out.trans (((below_new wr (.cells #[.string (str ((s.drop (i + 1)).take (n - (i + 1))))] 9 (0, 0))).mono HB.out.size).trans (OwnS.below (HO.out.alloc (.cells #[.string (str ((s.drop (i + 1)).take (n - (i + 1))))] 9 (0, 0))) (Nat.le_trans HB.out.size (below_new _ _).size) hgr))); have HW := hid (OwnS.put (acc := acc) (t := (s.drop (i + 1)).take (n - (i + 1))) (by rw [HLe.out]; exact hown)); clear hown hgr)
            go_roundg (n - (i + 1) + 1)
            case measure => omega
            case rel => exact ⟨i + 1, by omega, rfl, by push_cast; go_num, _, HW.out, by rw [List.length_append, HLe.out]; simp; omega, HNx.out, HB2.out⟩
      · have z1 : ¬ (Y : Int) = 47 := fun e => hc (UInt8.toNat_inj.1 (by rw [hY]; show Y = 47; omega))
        have z2 : ((Y : Int) == 47) = false := by simpa using z1
        have HNx := hid (show R = acc ++ segsL (s.drop (i + 1)) from by rw [HR.out, segsL, if_neg hc])
        clear hc hY
        go_wp2
        go_roundg (n - (i + 1) + 1)
        case measure => omega
        case rel => exact ⟨i + 1, by omega, rfl, by push_cast; go_num, acc, by have h8 := HO.out; exact h8, by rw [HLe.out]; omega, HNx.out, HB.out⟩
    · obtain rfl : n = i := by omega
      have HV := hid (show R = acc from by rw [HR.out, List.drop_of_length_le (by rw [HN.out]; exact Nat.le_refl _)]; simp [segsL])
      go_wp2
      go_ret
      rw [HV.out, HLe.out]
      exact ⟨p, c0, rfl, HO.out, HB.out⟩
end Go.Proofs.YtbdbmlklijmefaaDoor
