/- What a block makes of a state: mixed of package sha. -/
import Derived.Test.YtojcaoieodogdaaDoorSched
namespace Go.Proofs.YtojcaoieodogdaaDoor
open Go.RowKit

def kTab : List Int := [1116352408, 1899447441, 3049323471, 3921009573, 961987163, 1508970993, 2453635748, 2870763221, 3624381080, 310598401, 607225278, 1426881987, 1925078388, 2162078206, 2614888103, 3248222580, 3835390401, 4022224774, 264347078, 604807628, 770255983, 1249150122, 1555081692, 1996064986, 2554220882, 2821834349, 2952996808, 3210313671, 3336571891, 3584528711, 113926993, 338241895, 666307205, 773529912, 1294757372, 1396182291, 1695183700, 1986661051, 2177026350, 2456956037, 2730485921, 2820302411, 3259730800, 3345764771, 3516065817, 3600352804, 4094571909, 275423344, 430227734, 506948616, 659060556, 883997877, 958139571, 1322822218, 1537002063, 1747873779, 1955562222, 2024104815, 2227730452, 2361852424, 2428436474, 2756734187, 3204031479, 3329325298]
/-- The table of constants lies in its variable. -/
def KAt (w : World) : Prop := ∀ i, i < 64 → w.cell? ⟨0, i, none⟩ = some (.int .u32 (kTab[i]?.getD 0))
theorem KAt.lt {w : World} (h : KAt w) : 0 < w.heap.size := by
  have := h 0 (by omega)
  rcases Nat.lt_or_ge 0 w.heap.size with h' | h'
  · exact h'
  · simp [World.cell?, Array.getElem?_eq_none h'] at this
theorem KAt.below {w w' : World} (h : KAt w) (hb : Below w.heap.size w w') : KAt w' := fun i hi => (hb.cell (p := ⟨0, i, none⟩) h.lt).trans (h i hi)
theorem KAt.since {w w' : World} (h : KAt w) {B : Nat} (h0 : 0 < B) (hb : Below B w w') : KAt w' := fun i hi => (hb.cell (p := ⟨0, i, none⟩) h0).trans (h i hi)
structure Oct where
  a : Int
  b : Int
  c : Int
  d : Int
  e : Int
  f : Int
  g : Int
  h : Int
def Oct.list (s : Oct) : List Int := [s.a, s.b, s.c, s.d, s.e, s.f, s.g, s.h]
def octOf (l : List Int) : Oct := ⟨l[0]?.getD 0, l[1]?.getD 0, l[2]?.getD 0, l[3]?.getD 0, l[4]?.getD 0, l[5]?.getD 0, l[6]?.getD 0, l[7]?.getD 0⟩
def rndT (s : Oct) (k x : Int) : Int := add32 (add32 (add32 (add32 s.h (bs1 s.e)) (chW s.e s.f s.g)) k) x
def rnd (s : Oct) (k x : Int) : Oct := ⟨add32 (rndT s k x) (add32 (bs0 s.a) (majW s.a s.b s.c)), s.a, s.b, s.c, add32 s.d (rndT s k x), s.e, s.f, s.g⟩
def rnds (kt wl : List Int) (s : Oct) : Nat → Oct
  | 0 => s
  | t + 1 => rnd (rnds kt wl s t) (kt[t]?.getD 0) (wl[t]?.getD 0)
def mixTo (st o : List Int) (k : Nat) : List Int := (List.zipWith add32 st o).take k ++ st.drop k
def mixW (st blk : List Int) : List Int := List.zipWith add32 st (rnds kTab (sched blk) (octOf st) 64).list
theorem mixTo_len {st o : List Int} (h : o.length = st.length) (k : Nat) (hk : k ≤ st.length) : (mixTo st o k).length = st.length := by simp [mixTo, h]; omega
theorem mixTo_at {st o : List Int} (h : o.length = st.length) (k : Nat) (hk : k < st.length) : (mixTo st o k)[k]?.getD 0 = st[k]?.getD 0 := by
  unfold mixTo
  rw [List.getElem?_append_right (by simp; omega)]
  simp [h, Nat.min_eq_left (Nat.le_of_lt hk)]
theorem mixTo_set {st o : List Int} (h : o.length = st.length) (k : Nat) (hk : k < st.length) : (mixTo st o k).set k (add32 (st[k]?.getD 0) (o[k]?.getD 0)) = mixTo st o (k + 1) := by
  apply List.ext_getElem?
  intro j
  have hz : (List.zipWith add32 st o).length = st.length := by simp [h]
  rw [List.getElem?_set, mixTo_len h k (by omega)]
  by_cases hj : k = j
  · subst hj
    rw [if_pos rfl, if_pos hk]
    unfold mixTo
    rw [List.getElem?_append_left (by simp [h]; omega), List.getElem?_take, if_pos (by omega)]
    simp [List.getElem?_zipWith, hk, show k < o.length by omega]
  · rw [if_neg hj]
    unfold mixTo
    by_cases h1 : j < k
    · rw [List.getElem?_append_left (by simp [h]; omega), List.getElem?_append_left (by simp [h]; omega), List.getElem?_take, List.getElem?_take, if_pos h1, if_pos (by omega)]
    · rw [List.getElem?_append_right (by simp [h]; omega), List.getElem?_append_right (by simp [h]; omega), List.getElem?_drop, List.getElem?_drop]
      congr 1
      simp [h]
      omega
theorem mixTo_zero (st o : List Int) : mixTo st o 0 = st := by simp [mixTo]
theorem mixTo_all {st o : List Int} (h : o.length = st.length) : mixTo st o st.length = List.zipWith add32 st o := by
  unfold mixTo
  rw [List.take_of_length_le (by simp [h]), List.drop_length, List.append_nil]
theorem und52 : Tryd.prog.underlying 57 = some (.array 8 56) := by kernel_rfl
theorem size52 : (Tryd.prog.info? 57).map (·.size) = some 8 := by kernel_rfl
theorem index_words (l : List Int) (h : l.length = 8) (k : Nat) (hk : k < 8) (W : World) : (Instr.index 57 (.agg (ws l)) (.int .i64 k)).run Tryd.prog W = .ok (.int .u32 (l[k]?.getD 0)) W := by
  have hv := ws_get (l := l) (k := k) (by omega)
  have hi : (0 : Int) ≤ k ∧ (k : Int) < (8 : Nat) := by omega
  have hs : (Tryd.prog.info? 56).map (·.size) = some 1 := by kernel_rfl
  cases hq : Tryd.prog.info? 56 with
  | none => simp [hq] at hs
  | some i =>
    have hz : i.size = 1 := by simpa [hq] using hs
    simp [Instr.index, asIntOf, run_underlying und52, hi, sizeOf, typeInfo, hq, hz, part, hv]
    omega
theorem below_drewN {B : Nat} {w W : World} (h : Below B w W) (n : Nat) : Below B w (W.drewN n) := ⟨h.os, h.tape, h.output, h.size, h.block⟩
theorem rnd_e (d h p q x y : Int) : (d + (h + p + q + x + y) % 4294967296) % 4294967296 = add32 d (add32 (add32 (add32 (add32 h p) q) x) y) := by simp [add32]
theorem rnd_a (h p q x y i j : Int) : ((h + p + q + x + y) % 4294967296 + (i + j) % 4294967296) % 4294967296 = add32 (add32 (add32 (add32 (add32 h p) q) x) y) (add32 i j) := by simp [add32]
structure MixP (w W : World) (v : Nat) (st wl : List Int) : Prop where
  below : Below w.heap.size w W
  k : KAt W
  st : RowAt W w.heap.size (ws st) 57
  out : ∃ c, RowAt W (w.heap.size + 1 + 1) c 57 ∧ c.size = 8
  row : RowAt W v (ws wl) 76
  lo : w.heap.size + 1 + 1 < v
set_option maxRecDepth 20000 in
set_option maxHeartbeats 4000000 in
theorem mixed_any (st blk : List Int) (hs : st.length = 8) (hb : blk.length = 64) (w : World) (hk : KAt w) :
    Calls Tryd.prog 41 #[.agg (ws st), .agg (bsv blk)] w fun e w' => e = .returned (.agg (ws (mixW st blk))) ∧ Below w.heap.size w w' := by
  have hK := hid hk
  clear hk
  have h1 : RowAt (((w.alloc (.cells (ws st) 57)).alloc (.cells (bsv blk) 59)).alloc (.cells (ws (List.replicate 8 0)) 57)) (w.heap.size + 1) (bsv blk) 59 := by
    have := row_new (w.alloc (.cells (ws st) 57)) (bsv blk) 59
    rw [World.size_alloc] at this
    exact this.alloc _
  have H1 := hid h1
  clear h1
  go_enter Tryd.func41, Tryd.ntmps41
  go_wp2_with (first
    | (refine wpList_load_row rfl 59 _ rfl _ rfl 59 (bsv blk) _ _ H1.out und35 rfl (by rw [size35, bsv_size, hb]) ?_)
    | (go_at_call 55; with_reducible refine (schedule_any blk hb _).mono ?_; rintro e w1 ⟨rfl, hb1⟩; have HB1 := hid hb1; clear hb1 H1)
    | (refine wpList_store_as rfl 76 _ _ rfl _ (ws (sched blk)) rfl rfl 76 (ws (List.replicate 64 0)) (row_new _ _ _) (by rw [size37, ws_size, sched_len]) (by rw [ws_size, ws_size, sched_len]; simp) (ws_one _) ?_; intro W hst; have HST := hid hst; clear hst))
  obtain ⟨v, hv⟩ : ∃ v, w1.heap.size = v := ⟨_, rfl⟩
  have HM : Hid (MixP w W v st (sched blk)) := by
    have b0 := ((((Below.refl w.heap.size w).alloc (Nat.le_refl _) (.cells (ws st) 57)).alloc (by simp) (.cells (bsv blk) 59)).alloc (by simp; omega) (.cells (ws (List.replicate 8 0)) 57))
    have z1 := HB1.out.size
    simp only [World.size_alloc] at z1
    have b1 : Below w.heap.size w w1 := b0.trans (HB1.out.mono (by simp; omega))
    have b2 : Below w.heap.size w W := HST.out.below (b1.alloc b1.size _) b1.size
    have r0 : RowAt w1 w.heap.size (ws st) 57 := (((row_new w (ws st) 57).alloc _).alloc _).below HB1.out
    have r2 : RowAt w1 (w.heap.size + 1 + 1) (ws (List.replicate 8 0)) 57 := by
      have := row_new ((w.alloc (.cells (ws st) 57)).alloc (.cells (bsv blk) 59)) (ws (List.replicate 8 0)) 57
      rw [World.size_alloc, World.size_alloc] at this
      exact this.below HB1.out
    subst hv
    exact ⟨b2, hK.out.since hK.out.lt b2, (HST.out.other _ (by omega)).trans (r0.alloc _), ⟨_, (HST.out.other _ (by omega)).trans (r2.alloc _), by simp [ws]⟩, HST.out.row, by omega⟩
  rw [hv]
  clear HB1 HST hv
  have c0 := (HM.out.st.cell 0).trans (ws_get (by omega))
  obtain ⟨s0, HS0⟩ : ∃ x, Hid (st[0]?.getD 0 = x) := ⟨_, hid rfl⟩
  rw [HS0.out] at c0
  have c1 := (HM.out.st.cell 1).trans (ws_get (by omega))
  obtain ⟨s1, HS1⟩ : ∃ x, Hid (st[1]?.getD 0 = x) := ⟨_, hid rfl⟩
  rw [HS1.out] at c1
  have c2 := (HM.out.st.cell 2).trans (ws_get (by omega))
  obtain ⟨s2, HS2⟩ : ∃ x, Hid (st[2]?.getD 0 = x) := ⟨_, hid rfl⟩
  rw [HS2.out] at c2
  have c3 := (HM.out.st.cell 3).trans (ws_get (by omega))
  obtain ⟨s3, HS3⟩ : ∃ x, Hid (st[3]?.getD 0 = x) := ⟨_, hid rfl⟩
  rw [HS3.out] at c3
  have c4 := (HM.out.st.cell 4).trans (ws_get (by omega))
  obtain ⟨s4, HS4⟩ : ∃ x, Hid (st[4]?.getD 0 = x) := ⟨_, hid rfl⟩
  rw [HS4.out] at c4
  have c5 := (HM.out.st.cell 5).trans (ws_get (by omega))
  obtain ⟨s5, HS5⟩ : ∃ x, Hid (st[5]?.getD 0 = x) := ⟨_, hid rfl⟩
  rw [HS5.out] at c5
  have c6 := (HM.out.st.cell 6).trans (ws_get (by omega))
  obtain ⟨s6, HS6⟩ : ∃ x, Hid (st[6]?.getD 0 = x) := ⟨_, hid rfl⟩
  rw [HS6.out] at c6
  have c7 := (HM.out.st.cell 7).trans (ws_get (by omega))
  obtain ⟨s7, HS7⟩ : ∃ x, Hid (st[7]?.getD 0 = x) := ⟨_, hid rfl⟩
  rw [HS7.out] at c7
  go_wp2
  go_quiet (fail)
  go_wp2
  go_quiet (fail)
  go_wp2
  go_loopw [6, 7, 8, 9, 10, 11, 12, 13, 37] (fun a b c d e f g h i W => ∃ (t : Nat) (s : Oct), t ≤ 64 ∧ a = .int .u32 s.a ∧ b = .int .u32 s.b ∧ c = .int .u32 s.c ∧ d = .int .u32 s.d ∧ e = .int .u32 s.e ∧ f = .int .u32 s.f ∧ g = .int .u32 s.g ∧ h = .int .u32 s.h ∧ i = .int .i64 t ∧ Hid (rnds kTab (sched blk) (octOf st) t = s) ∧ Hid (MixP w W v st (sched blk))) (fun _ _ _ _ _ _ _ _ i _ => 64 - (intOf i).toNat)
  case atStart =>
    refine ⟨0, ⟨s0, s1, s2, s3, s4, s5, s6, s7⟩, Nat.zero_le _, rfl, rfl, rfl, rfl, rfl, rfl, rfl, rfl, rfl, ?_, ?_⟩
    · show octOf st = _
      unfold octOf
      rw [HS0.out, HS1.out, HS2.out, HS3.out, HS4.out, HS5.out, HS6.out, HS7.out]
    · exact ⟨below_drewN (below_drewN HM.out.below _) _, HM.out.k, HM.out.st, HM.out.out, HM.out.row, HM.out.lo⟩
  case round =>
    clear HM c0 c1 c2 c3 c4 c5 c6 c7 HS0 HS1 HS2 HS3 HS4 HS5 HS6 HS7
    obtain ⟨t, s, ht, rfl, rfl, rfl, rfl, rfl, rfl, rfl, rfl, rfl, HR, HM⟩ := hrel
    obtain ⟨a, b, c, d, e, f, g, h⟩ := s
    obtain ⟨V, hV⟩ : ∃ V, V = wr := ⟨_, rfl⟩
    rw [← hV] at HM ⊢
    clear hV
    by_cases hlt : t < 64
    · have hlt' : (t : Int) < 64 := by omega
      have ck := HM.out.k t hlt
      have cw := (HM.out.row.cell t).trans (ws_get (by rw [sched_len]; exact hlt))
      obtain ⟨x, HX⟩ : ∃ x, Hid (kTab[t]?.getD 0 = x) := ⟨_, hid rfl⟩
      obtain ⟨y, HY⟩ : ∃ x, Hid ((sched blk)[t]?.getD 0 = x) := ⟨_, hid rfl⟩
      rw [HX.out] at ck
      rw [HY.out] at cw
      go_wp2
      go_quiet (first
        | (go_at_call 56; exact Calls.quiet_of_same (bs1_any e _))
        | (go_at_call 57; exact Calls.quiet_of_same (ch_any e f g _)))
      go_wp2_with (first
        | (go_at_call 58; with_reducible refine (bs0_any a _).mono ?_; rintro e w' ⟨rfl, rfl⟩)
        | (go_at_call 59; with_reducible refine (maj_any a b c _).mono ?_; rintro e w' ⟨rfl, rfl⟩))
      go_roundw
      case rel =>
        refine ⟨t + 1, rnd ⟨a, b, c, d, e, f, g, h⟩ x y, by omega, ?A, rfl, rfl, rfl, ?E, rfl, rfl, rfl, by go_num, ?_, ?_⟩
        case A => exact congrArg (Value.int .u32) (rnd_a _ _ _ _ _ _ _)
        case E => exact congrArg (Value.int .u32) (rnd_e _ _ _ _ _ _)
        · show rnd (rnds kTab (sched blk) (octOf st) t) (kTab[t]?.getD 0) ((sched blk)[t]?.getD 0) = _
          rw [HR.out, HX.out, HY.out]
        · exact ⟨below_drewN HM.out.below _, HM.out.k, HM.out.st, HM.out.out, HM.out.row, HM.out.lo⟩
      case measure => simp [intOf]; omega
    · have hlt' : ¬ (t : Int) < 64 := by omega
      obtain rfl : t = 64 := by omega
      clear hlt hlt' ht
      obtain ⟨o, HO⟩ : ∃ o, Hid ([a, b, c, d, e, f, g, h] = o) := ⟨_, hid rfl⟩
      have HOL : Hid (o.length = st.length) := by show _ = _; rw [← HO.out, hs]; rfl
      have HE : Hid (mixW st blk = List.zipWith add32 st o) := by
        show _ = _
        unfold mixW
        rw [HR.out, ← HO.out]
        rfl
      go_wp2
      go_loopw [86] (fun i W => ∃ k : Nat, k ≤ 8 ∧ i = .int .i64 k ∧ Hid (MixP w W v (mixTo st o k) (sched blk))) (fun i _ => 8 - (intOf i).toNat)
      case atStart => exact ⟨0, Nat.zero_le _, rfl, by rw [mixTo_zero]; exact HM⟩
      case round =>
        clear HM
        obtain ⟨k, hk, rfl, HM⟩ := hrel
        obtain ⟨V, hV⟩ : ∃ V, V = wr := ⟨_, rfl⟩
        rw [← hV] at HM ⊢
        clear hV
        have hol := HOL.out
        by_cases hlt : k < 8
        · have hlt' : (k : Int) < 8 := by omega
          have c0 := (HM.out.st.cell k).trans (ws_get (by rw [mixTo_len hol k (by omega)]; omega))
          rw [mixTo_at hol k (by omega)] at c0
          have f0 := HM.out.st.fz k
          have b0 := index_words o (by omega) k hlt V
          rw [← HO.out] at b0
          obtain ⟨x, HX⟩ : ∃ x, Hid (st[k]?.getD 0 = x) := ⟨_, hid rfl⟩
          obtain ⟨y, HY⟩ : ∃ x, Hid ([a, b, c, d, e, f, g, h][k]?.getD 0 = x) := ⟨_, hid rfl⟩
          rw [HX.out] at c0
          rw [HY.out] at b0
          have b1 : (Instr.index 57 (.agg #[.int .u32 a, .int .u32 b, .int .u32 c, .int .u32 d, .int .u32 e, .int .u32 f, .int .u32 g, .int .u32 h]) (.int .i64 k)).run Tryd.prog V = .ok (.int .u32 y) V := b0
          clear b0 hol
          go_wp2
          go_roundw
          case rel =>
            refine ⟨k + 1, by omega, by go_num, ?_⟩
            have hz := HM.out.lo
            obtain ⟨c, hc, hc2⟩ := HM.out.out
            have e1 := HM.out.st.set k (.int .u32 (add32 x y))
            rw [ws_set, ← HX.out, ← HY.out, HO.out, mixTo_set HOL.out k (by omega)] at e1
            rw [← HX.out, ← HY.out, HO.out]
            have b2 : Below w.heap.size w (V.setCell ⟨w.heap.size, k, none⟩ (.int .u32 (add32 (st[k]?.getD 0) (o[k]?.getD 0)))) := HM.out.below.setCell (Nat.le_refl _) _
            exact ⟨b2, hK.out.since hK.out.lt b2, e1, ⟨c, hc.other (by omega) _, hc2⟩, HM.out.row.other (by omega) _, hz⟩
          case measure => simp [intOf]; omega
        · have hlt' : ¬ (k : Int) < 8 := by omega
          obtain rfl : k = 8 := by omega
          obtain ⟨c, hc, hc2⟩ := HM.out.out
          have hst := HM.out.st
          have hz := HM.out.lo
          rw [show 8 = st.length from hs.symm, mixTo_all hol, ← HE.out] at hst
          have hml : (mixW st blk).length = 8 := by rw [HE.out]; simp [hol, hs]
          have HS := hid hst
          have HC := hid hc
          have HC2 := hid hc2
          have HL := hid hml
          clear hst hc hc2 hol hml
          go_wp2_with (first
            | (refine wpList_load_row rfl 57 _ rfl _ rfl 57 (ws (mixW st blk)) _ _ HS.out und52 rfl (by rw [size52, ws_size, HL.out]) ?_)
            | (refine wpList_store_row rfl 57 _ _ rfl _ (ws (mixW st blk)) rfl rfl 57 c HC.out (by rw [size52, ws_size, HL.out]) (by rw [HC2.out, ws_size, HL.out]) (ws_one _) ?_))
          refine bodyPost_ret (results_cell_row rfl _ _ _ 57 (ws (mixW st blk)) _ _ rfl (HC.out.setRow _) und52 rfl (by rw [size52, ws_size, HL.out])) rfl ?_
          exact ⟨rfl, below_setRow HM.out.below (by omega) _⟩
theorem mixW_len (st blk : List Int) (hs : st.length = 8) : (mixW st blk).length = 8 := by simp [mixW, Oct.list, hs]
end Go.Proofs.YtojcaoieodogdaaDoor
