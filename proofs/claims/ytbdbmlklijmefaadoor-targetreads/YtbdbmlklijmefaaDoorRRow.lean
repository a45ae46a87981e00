/- Rows of bytes of one's own; the document's small letters, texts without codes, parts of a query. -/
import Derived.Test.YtbdbmlklijmefaaDoorRCut
import Derived.Lib.FrozenHead
import Derived.Lib.AppendStr
namespace Go.Proofs.YtbdbmlklijmefaaDoor
open Go.RowKit

theorem lt_of_heap {w : World} {k : Nat} {o : Obj} (h : w.heap[k]? = some o) : k < w.heap.size := (Array.getElem?_eq_some_iff.1 h).1
theorem below_new (w : World) (o : Obj) : Below w.heap.size w (w.alloc o) := (Below.refl _ _).alloc (Nat.le_refl _) _
theorem own_slice {w : World} {base n m : Nat} {e : TypeId} {u : Value} {ys : List Value} (h : w.ownsRow base e m u n ys) : ∃ p c, u = .slice p n c := by
  rcases h.2 with ⟨h1, h2⟩ | ⟨g, cap, cur, h1, _⟩
  · exact ⟨none, 0, by rw [h1, h2]⟩
  · exact ⟨_, _, h1⟩
theorem own_slice3 {w : World} {base n m : Nat} {e : TypeId} {u : Value} {ys : List Value} (h : w.ownsRow base e m u n ys) : ∃ p L c, u = .slice p L c := by
  obtain ⟨p, c, e⟩ := own_slice h
  exact ⟨p, n, c, e⟩
theorem own_ge {w : World} {base n m k : Nat} {e : TypeId} {u : Value} {ys : List Value} (h : w.ownsRow base e m u n ys) (hk : u.ownBlock = some k) : base ≤ k := by
  rcases h.2 with ⟨rfl, _⟩ | ⟨g, cap, cur, rfl, h1, _⟩
  · simp [Value.ownBlock] at hk
  · simp [Value.ownBlock] at hk
    subst hk
    exact h1
theorem own_ne {w : World} {base n m v : Nat} {e : TypeId} {u : Value} {ys : List Value} (h : w.ownsRow base e m u n ys) (hv : v < base) (hk : u.ownBlock = some v) : False := by
  have := own_ge h hk
  omega
/-- A row of bytes of one's own. -/
def Own (w : World) (base : Nat) (v : Value) (acc : B) : Prop := w.ownsRow base 5 1 v acc.length (Lib.byteCells acc)
theorem cells_app (a b : B) : Lib.byteCells (a ++ b) = Lib.byteCells a ++ Lib.byteCells b := by simp [Lib.byteCells]
theorem Own.nil (w : World) (base : Nat) : Own w base (.slice none 0 0) [] := ⟨rfl, .inl ⟨rfl, rfl⟩⟩
theorem Own.put {w' : World} {base k : Nat} {v' : Value} {acc bs : B} {news : List Value} (h : w'.ownsRow base 5 1 v' (acc.length + k) (Lib.byteCells acc ++ news)) (e : Lib.byteCells bs = news) (hk : bs.length = k) : Own w' base v' (acc ++ bs) := by
  unfold Own
  rw [cells_app, e, List.length_append, hk]
  exact h
theorem Own.below {w w' : World} {base : Nat} {v : Value} {acc : B} (h : Own w base v acc) (hb : base ≤ w.heap.size) (hg : w.grownBy w' v.ownBlock) : Below base w w' :=
  ⟨hg.os, hg.tape, hg.output, hg.size, fun k hk => hg.block k (by omega) (fun e => own_ne h hk e.symm)⟩
theorem Own.keep {w w' : World} {base : Nat} {v : Value} {acc : B} (h : Own w base v acc) (hb : Below w.heap.size w w') : Own w' base v acc := by
  refine ⟨h.1, ?_⟩
  rcases h.2 with h1 | ⟨g, cap, cur, h1, h2, h3, h4⟩
  · exact .inl h1
  · exact .inr ⟨g, cap, cur, h1, h2, (hb.block g (lt_of_heap h3)).trans h3, h4⟩
theorem Own.alloc {w : World} {base : Nat} {v : Value} {acc : B} (h : Own w base v acc) (o : Obj) : Own (w.alloc o) base v acc := h.keep (below_new w o)
theorem add_off (g j : Nat) : (⟨g, 0, none⟩ : Addr).add j = ⟨g, j, none⟩ := by unfold Addr.add; split <;> simp_all
theorem cells_new (w : World) (news : List Value) (T : TypeId) : ∀ j u, news[j]? = some u → (w.alloc (.cells news.toArray T (0, 0))).cell? ((⟨w.heap.size, 0, none⟩ : Addr).add j) = some u := by
  intro j u hj
  rw [add_off]
  have := heap_alloc_new w (.cells news.toArray T (0, 0))
  simp only [World.cell?, this]
  simpa using hj
theorem infoB : (Tryd.prog.info? 5).map (fun i => (i.zero, i.size, i.bytes)) = some (some (.int .u8 0), 1, 1) := by kernel_rfl
theorem str_cells (acc : B) : strOfNums (acc.map fun c => (c.toNat : Int)) = str acc := by
  unfold strOfNums
  congr 2
  rw [List.map_map]
  conv => rhs; rw [← List.map_id acc]
  apply List.map_congr_left
  intro c _
  simp
theorem conv_own {w : World} {B0 : Nat} {v : Value} {acc : B} (h : Own w B0 v acc) : (convert 63 9 v).run Tryd.prog w = .ok (.string (str acc)) w := by
  have h := World.ownsRowF_of h
  rcases h.2 with ⟨rfl, h0⟩ | ⟨g, cap, cur, fz, rfl, h1, h2, h3, h4, h5, h6, h7⟩
  · obtain rfl : acc = [] := List.eq_nil_of_length_eq_zero h0
    exact run_convert_bytes_nil w 63 5 (by kernel_rfl) (by kernel_rfl) 0 0 9 (by kernel_rfl)
  · rw [← str_cells]
    refine run_convert_bytes_arg w 63 5 (by kernel_rfl) (by kernel_rfl) g 0 acc.length cap _ (by simp) ?_ 9 (by kernel_rfl)
    intro i hi
    have := h.cells (g := g) rfl i (.int .u8 ((acc[i].toNat : Nat) : Int)) (by simp [Lib.byteCells, hi])
    have hadd : (⟨g, 0, none⟩ : Addr).add i = ⟨g, 0 + i, none⟩ := by unfold Addr.add; split <;> simp_all
    rw [hadd] at this
    rw [this]
    simp [List.getD, hi]
theorem wp_append_own_at {P : Program} {w : World} {o : Oper} {a : Act} {K : Act → World → Prop} {Q : Exit → Act → World → Prop} (s x : Operand) (t : TypeId)
    (ho : o.op = .call { callee := .builtin .append, args := #[s, x], argTypes := #[t, t] })
    (base : Nat) (e : TypeId) (i : TypeInfo) (z : Value) (size bytes : Nat) (ht : P.underlying t = some (.slice e)) (hi : P.info? e = some i) (hz : i.zero = some z)
    (hsize : i.size = size) (hby : i.bytes = bytes) (hzs : z.cells.size = size) (hsz : 0 < size)
    (v : Value) (n : Nat) (xs : List Value) (hs : a.eval s = v) (hown : w.ownsRow base e size v n xs)
    (ad : Addr) (m c : Nat) (news : List Value) (hx : a.eval x = .slice (some ad) m c) (hl : news.length = m * size) (hnews : ∀ j u, news[j]? = some u → w.cell? (ad.add j) = some u) (h1 : ∀ u ∈ news, u.oneCell' = true)
    (h63 : n + m ≤ maxLen) (hbytes : (n + m) * bytes ≤ 140737488355328) (hbase : base ≤ w.heap.size)
    (h : ∀ v' w', w'.ownsRow base e size v' (n + m) (xs ++ news) → w.grownBy w' v.ownBlock → (v'.ownBlock = v.ownBlock ∨ v'.ownBlock = some w.heap.size) → K (a.put o.dst v') w') : o.wp P a w K Q := by
  obtain ⟨v', w', hr, h2, h3, _, h5⟩ := run_append_own_at (P := P) w base t o.type e i z size bytes ht hi hz hsize hby hzs hsz v n xs hown ad m c news hl hnews h1 h63 hbytes hbase
  unfold Oper.wp execOp
  simp only [ho, resolve, invoke, builtin, Sem.run_bind, Sem.run_pure, Result.andThen_ok, List.map_toArray, List.map_cons, List.map_nil, hs, hx, hr]
  exact h v' w' h2 h3 h5
theorem one_cell (c : UInt8) : Lib.byteCells [c] = [.int .u8 (c.toNat : Int)] := rfl
theorem up_wrap (Y : Nat) (h : Y ≤ 90) : IntKind.u8.wrap ((Y : Int) + 32) = (Y : Int) + 32 := by
  have key : ∀ K : Fin 91, IntKind.u8.wrap ((K.val : Int) + 32) = (K.val : Int) + 32 := by decide +kernel
  exact key ⟨Y, by omega⟩
set_option maxRecDepth 20000 in
theorem smallC_nat (y : UInt8) : (smallC y).toNat = if 65 ≤ y.toNat ∧ y.toNat ≤ 90 then y.toNat + 32 else y.toNat :=
  all256 (P := fun y => (smallC y).toNat = if 65 ≤ y.toNat ∧ y.toNat ≤ 90 then y.toNat + 32 else y.toNat) (by decide) y
set_option maxRecDepth 20000 in
set_option maxHeartbeats 8000000 in
theorem rsmall_any (s : B) (hs : s.length ≤ 35184372088832) (w : World) : Calls Tryd.prog 31 #[.string (str s)] w fun e w' => e = .returned (.string (str (smallB s))) ∧ Below w.heap.size w w' := by
  obtain ⟨i0, hi0, hz0, hz1, hz2⟩ := info_parts infoB
  obtain ⟨n, hn⟩ : ∃ n, s.length = n := ⟨_, rfl⟩
  have HN := hid hn
  obtain ⟨S, hS⟩ : ∃ S, str s = S := ⟨_, rfl⟩
  have hSn : S.size = n := by rw [← hS, str_size, hn]
  have HByte := hid (show ∀ (k : Nat) (h : k < s.length) (h2 : k < S.size), S[k]'h2 = s[k]'h from fun k h h2 => by subst hS; rfl)
  rw [hn] at hs
  rw [hS]
  clear hn hS
  go_enter Tryd.func31, Tryd.ntmps31
  go_wp2
  go_loopg [3, 4] (n + 1) (fun gk s3 s4 wr => ∃ i : Nat, i ≤ n ∧ gk = n - i + 1 ∧ s4 = .int .i64 (i : Int) ∧ Own wr w.heap.size s3 (smallB (s.take i)) ∧ Below w.heap.size w wr)
  case atStart => exact ⟨0, by omega, rfl, rfl, Own.nil w _, Below.refl _ _⟩
  case round =>
    obtain ⟨i, hi, rfl, rfl, ho, hb⟩ := hrel
    have HB := hid hb
    obtain ⟨acc, hacc⟩ : ∃ acc, smallB (s.take i) = acc := ⟨_, rfl⟩
    have HAcc := hid hacc
    have HLe := hid (show acc.length = i from by rw [← hacc]; simp [smallB, HN.out]; exact Nat.min_eq_left hi)
    rw [hacc] at ho
    obtain ⟨p, c0, rfl⟩ := own_slice ho
    have HO := hid ho
    rw [HLe.out] at HO ⊢
    clear ho hb hacc
    by_cases hin : i < n
    · have hi1 : i < s.length := by rw [HN.out]; exact hin
      obtain ⟨y, hy⟩ : ∃ y, s[i] = y := ⟨_, rfl⟩
      obtain ⟨Y, hY⟩ : ∃ Y : Nat, y.toNat = Y := ⟨_, rfl⟩
      have hY256 : Y < 256 := by rw [← hY]; exact y.toNat_lt
      have hbyte : ∀ h : i < S.size, (S[i]'h).toNat = Y := fun h => by rw [HByte.out i hi1 h, hy, hY]
      have HTk := hid (show smallB (s.take (i + 1)) = acc ++ [smallC y] from by rw [← HAcc.out, List.take_add_one, List.getElem?_eq_getElem hi1, hy]; simp [smallB])
      have HSm := hid (smallC_nat y)
      rw [hY] at HSm
      clear hy hi1 hY
      by_cases hg : 65 ≤ Y ∧ Y ≤ 90
      · have HBc := hid (show Lib.byteCells [smallC y] = [.int .u8 ((Y : Int) + 32)] from by rw [one_cell, HSm.out, if_pos hg]; rfl)
        have g1 : 65 ≤ (Y : Int) := by omega
        have g2 : (Y : Int) ≤ 90 := by omega
        have g3 := up_wrap Y hg.2
        clear hg
        go_wp2_with (at_builtin; refine wpList_append_own_at _ rfl (.tmp 23) (.tmp 25) 63 rfl w.heap.size 5 i0 _ 1 1 Tryd.underlying63 hi0 hz0 hz1 hz2 rfl (by decide) (.slice p i c0) i (Lib.byteCells acc) (by go_simp) (by have h8 := HO.out.alloc (.cells #[.int .u8 ((Y : Int) + 32)] 5 (0, 0)); unfold Own at h8; rw [HLe.out] at h8; exact h8) ⟨wr.heap.size, 0, none⟩ 1 1 [.int .u8 ((Y : Int) + 32)] (by go_simp) rfl (cells_new wr _ _) (by simp [Value.oneCell']) (by unfold maxLen; omega) (by omega) (Nat.le_trans HB.out.size (below_new _ _).size) ?_; intro v' w' hown hgr _ _; obtain ⟨p7, L7, c7, rfl⟩ := own_slice3 hown; have HB2 := hid (HB.out.trans (((below_new wr (.cells #[.int .u8 ((Y : Int) + 32)] 5 (0, 0))).mono HB.out.size).trans (Own.below (HO.out.alloc (.cells #[.int .u8 ((Y : Int) + 32)] 5 (0, 0))) (Nat.le_trans HB.out.size (below_new _ _).size) hgr))); have HW := hid (Own.put (acc := acc) (bs := [smallC y]) (by rw [HLe.out]; exact hown) HBc.out rfl); clear hown hgr)
        go_roundg (n - (i + 1) + 1)
        case measure => omega
        case rel => exact ⟨i + 1, by omega, rfl, by push_cast; rfl, by rw [HTk.out]; exact HW.out, HB2.out⟩
      · have HBc := hid (show Lib.byteCells [smallC y] = [.int .u8 (Y : Int)] from by rw [one_cell, HSm.out, if_neg hg])
        have hg2 : ¬ (65 ≤ (Y : Int) ∧ (Y : Int) ≤ 90) := fun q => hg ⟨by omega, by omega⟩
        clear hg
        by_cases g1 : 65 ≤ (Y : Int)
        · have g2 : ¬ (Y : Int) ≤ 90 := fun q => hg2 ⟨g1, q⟩
          clear hg2
          go_wp2_with (at_builtin; refine wpList_append_own_at _ rfl (.tmp 23) (.tmp 25) 63 rfl w.heap.size 5 i0 _ 1 1 Tryd.underlying63 hi0 hz0 hz1 hz2 rfl (by decide) (.slice p i c0) i (Lib.byteCells acc) (by go_simp) (by have h8 := HO.out.alloc (.cells #[.int .u8 (Y : Int)] 5 (0, 0)); unfold Own at h8; rw [HLe.out] at h8; exact h8) ⟨wr.heap.size, 0, none⟩ 1 1 [.int .u8 (Y : Int)] (by go_simp) rfl (cells_new wr _ _) (by simp [Value.oneCell']) (by unfold maxLen; omega) (by omega) (Nat.le_trans HB.out.size (below_new _ _).size) ?_; intro v' w' hown hgr _ _; obtain ⟨p7, L7, c7, rfl⟩ := own_slice3 hown; have HB2 := hid (HB.out.trans (((below_new wr (.cells #[.int .u8 (Y : Int)] 5 (0, 0))).mono HB.out.size).trans (Own.below (HO.out.alloc (.cells #[.int .u8 (Y : Int)] 5 (0, 0))) (Nat.le_trans HB.out.size (below_new _ _).size) hgr))); have HW := hid (Own.put (acc := acc) (bs := [smallC y]) (by rw [HLe.out]; exact hown) HBc.out rfl); clear hown hgr)
          go_roundg (n - (i + 1) + 1)
          case measure => omega
          case rel => exact ⟨i + 1, by omega, rfl, by push_cast; rfl, by rw [HTk.out]; exact HW.out, HB2.out⟩
        · clear hg2
          go_wp2_with (at_builtin; refine wpList_append_own_at _ rfl (.tmp 23) (.tmp 25) 63 rfl w.heap.size 5 i0 _ 1 1 Tryd.underlying63 hi0 hz0 hz1 hz2 rfl (by decide) (.slice p i c0) i (Lib.byteCells acc) (by go_simp) (by have h8 := HO.out.alloc (.cells #[.int .u8 (Y : Int)] 5 (0, 0)); unfold Own at h8; rw [HLe.out] at h8; exact h8) ⟨wr.heap.size, 0, none⟩ 1 1 [.int .u8 (Y : Int)] (by go_simp) rfl (cells_new wr _ _) (by simp [Value.oneCell']) (by unfold maxLen; omega) (by omega) (Nat.le_trans HB.out.size (below_new _ _).size) ?_; intro v' w' hown hgr _ _; obtain ⟨p7, L7, c7, rfl⟩ := own_slice3 hown; have HB2 := hid (HB.out.trans (((below_new wr (.cells #[.int .u8 (Y : Int)] 5 (0, 0))).mono HB.out.size).trans (Own.below (HO.out.alloc (.cells #[.int .u8 (Y : Int)] 5 (0, 0))) (Nat.le_trans HB.out.size (below_new _ _).size) hgr))); have HW := hid (Own.put (acc := acc) (bs := [smallC y]) (by rw [HLe.out]; exact hown) HBc.out rfl); clear hown hgr)
          go_roundg (n - (i + 1) + 1)
          case measure => omega
          case rel => exact ⟨i + 1, by omega, rfl, by push_cast; rfl, by rw [HTk.out]; exact HW.out, HB2.out⟩
    · obtain rfl : n = i := by omega
      have HV := hid (show acc = smallB s from by rw [← HAcc.out, List.take_of_length_le (by rw [HN.out]; exact Nat.le_refl _)])
      have hcv := conv_own (by have h8 := HO.out; exact h8 : Own wr w.heap.size (.slice p n c0) acc)
      go_wp2
      go_ret
      rw [HV.out]
      exact ⟨rfl, HB.out⟩
end Go.Proofs.YtbdbmlklijmefaaDoor
