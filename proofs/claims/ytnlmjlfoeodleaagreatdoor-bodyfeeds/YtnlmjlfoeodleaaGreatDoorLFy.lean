/- BodyFeeds where there is a reader: fed with the same pieces, both say the same. -/
import Derived.Test.YtnlmjlfoeodleaaGreatDoorLFn
namespace Go.Proofs.YtnlmjlfoeodleaaGreatDoor
open Go.RowKit

theorem LFS.start {w w1 w2 : World} {X : Array Value} {K N m : Int} {s : BS} {d : DK} {g : Nat} {cp : Option Addr} (h1 : BdAt (fun k => (w.alloc (.cells X 26 (0, 0))).heap.size ≤ k ∧ k < w1.heap.size) w1 g s cp) (hb1 : Below (w.alloc (.cells X 26 (0, 0))).heap.size (w.alloc (.cells X 26 (0, 0))) w1) (hb2 : Below w1.heap.size w1 w2) (hl : d.line = []) (ht : d.tr = []) : LFS w (w2.alloc (.cells (bdV K N m s d (.slice none 0 0) (.slice none 0 0)) 37 (0, 0))) X K N m s s { d with gh := fun k => (w.alloc (.cells X 26 (0, 0))).heap.size ≤ k ∧ k < w1.heap.size } none 0 0 none 0 0 g w2.heap.size cp := by
  have hz : (w.alloc (.cells X 26 (0, 0))).heap.size = w.heap.size + 1 := by simp
  have z1 := hb1.size
  have z2 := hb2.size
  have hn := below_new w2 (.cells (bdV K N m s d (.slice none 0 0) (.slice none 0 0)) 37 (0, 0))
  refine ⟨below_out (below_out (below_out (below_new _ _) hb1) hb2) hn, blk_nextD (blk_nextD (blk_nextD (heap_alloc_new w (.cells X 26 (0, 0))) hb1) hb2) hn, heap_alloc_new w2 _, (h1.next hb2).next hn, dk_nil _ hl ht (fun k hk => ?_), fun k hk => ?_, by omega, by dsimp only; rw [hl]; rfl, by dsimp only; rw [ht]; rfl⟩
  · have h5 : _ ∧ k < w1.heap.size := hk
    have z3 := hn.size
    omega
  · have h5 : (w.alloc (.cells X 26 (0, 0))).heap.size ≤ k ∧ k < w1.heap.size := hk
    exact ⟨by omega, by omega⟩
theorem LFS.drew {w W : World} {X : Array Value} {K N m : Int} {s1 s2 : BS} {d : DK} {lp tp cp : Option Addr} {ln lc tn tc g gB : Nat} (h : LFS w W X K N m s1 s2 d lp ln lc tp tn tc g gB cp) : LFS w W.drew X K N m s1 s2 d lp ln lc tp tn tc g gB cp := h.next ⟨rfl, rfl, rfl, Nat.le_refl _, fun _ _ => rfl⟩
theorem LFS.aside {w W U : World} {X : Array Value} {K N m : Int} {s1 s2 : BS} {d : DK} {lp tp cp : Option Addr} {ln lc tn tc g gB g13 : Nat} (h : LFS w W X K N m s1 s2 d lp ln lc tp tn tc g gB cp) (ho : Only (fun k => k = g13) W U) (h1 : w.heap.size < g13) (h2 : g13 ≠ gB) (h3 : ¬ d.gh g13) (hf : (∀ k n, W.cell? ⟨g13, k, none⟩ ≠ some (.int .u8 n)) ∧ ∀ k s, W.cell? ⟨g13, k, none⟩ ≠ some (.string s)) : LFS w U X K N m s1 s2 d lp ln lc tp tn tc g gB cp := by
  obtain ⟨a1, a2⟩ := dk_apart h.rows hf.1 hf.2
  refine ⟨Two.low1 h.low ho (fun k hk => by have e : k = g13 := hk; omega), (ho.block _ (lt_of_heap h.bx) (fun e => by have e2 : w.heap.size = g13 := e; omega)).trans h.bx, (ho.block _ (lt_of_heap h.bb) (fun e => h2 (show gB = g13 from e).symm)).trans h.bb, h.r.keep ho (fun k hk e => h3 (by have e2 : k = g13 := e; rw [← e2]; exact hk)), dk_only h.rows ho a1 a2, h.g1, h.gb, h.hl, h.ht⟩
/-- .. and the document's answer, its box not yet written or written; what both told. -/
structure LFN (w W : World) (X : Array Value) (K N m : Int) (s1 s2 : BS) (d : DK) (lp : Option Addr) (ln lc : Nat) (tp : Option Addr) (tn tc : Nat) (g gB : Nat) (cp : Option Addr) (g13 : Nat) (C : Array Value) (d1 : DK) (lp1 : Option Addr) (lc1 : Nat) (tp1 : Option Addr) (tc1 : Nat) (v2 v4 : Value) (Y : B) : Prop where
  fs : LFS w W X K N m s1 s2 d lp ln lc tp tn tc g gB cp
  z : W.heap[g13]? = some (.cells C 37 (0, 0))
  n1 : w.heap.size < g13
  n2 : g13 ≠ gB
  n3 : ¬ d.gh g13
  r1 : DkAt W d1 lp1 lc1 tp1 tc1
  o2 : Own W w.heap.size v2 Y
  o4 : Own W w.heap.size v4 Y
  x2 : ∀ k, v2.ownBlock = some k → k ≠ g13 ∧ k ≠ gB
  x4 : ∀ k, v4.ownBlock = some k → k ≠ g13 ∧ k ≠ gB
theorem LFN.store {w W U : World} {X C C' : Array Value} {K N m : Int} {s1 s2 : BS} {d d1 : DK} {lp tp cp lp1 tp1 : Option Addr} {ln lc tn tc g gB g13 lc1 tc1 : Nat} {v2 v4 : Value} {Y : B} (h : LFN w W X K N m s1 s2 d lp ln lc tp tn tc g gB cp g13 C d1 lp1 lc1 tp1 tc1 v2 v4 Y) (hf : (∀ k n, W.cell? ⟨g13, k, none⟩ ≠ some (.int .u8 n)) ∧ ∀ k s, W.cell? ⟨g13, k, none⟩ ≠ some (.string s)) (hU : U.heap[g13]? = some (.cells C' 37 (0, 0))) (ho : Only (fun k => k = g13) W U) : LFN w U X K N m s1 s2 d lp ln lc tp tn tc g gB cp g13 C' d1 lp1 lc1 tp1 tc1 v2 v4 Y := by
  obtain ⟨a1, a2⟩ := dk_apart h.r1 hf.1 hf.2
  exact ⟨h.fs.aside ho h.n1 h.n2 h.n3 hf, hU, h.n1, h.n2, h.n3, dk_only h.r1 ho a1 a2, own_only h.o2 ho (fun k e hk => (h.x2 k e).1 hk), own_only h.o4 ho (fun k e hk => (h.x4 k e).1 hk), h.x2, h.x4⟩
theorem LFN.put {w W U : World} {X C : Array Value} {K N m : Int} {s1 s2 : BS} {d d1 : DK} {lp tp cp lp1 tp1 : Option Addr} {ln lc tn tc g gB g13 lc1 tc1 ln1 tn1 : Nat} {v2 v4 : Value} {Y : B} (h : LFN w W X K N m s1 s2 d lp ln lc tp tn tc g gB cp g13 C d1 lp1 lc1 tp1 tc1 v2 v4 Y) (hg : d1.gh = d.gh) (hl : d1.line.length = ln1) (ht : d1.tr.length = tn1) (hb : U.heap[gB]? = some (.cells (bdV K N m s1 d1 (.slice lp1 ln1 lc1) (.slice tp1 tn1 tc1)) 37 (0, 0))) (ho : Only (fun k => k = gB) W U) : LFS w U X K N m s1 s1 d1 lp1 ln1 lc1 tp1 tn1 tc1 g gB cp ∧ Own U w.heap.size v2 Y ∧ Own U w.heap.size v4 Y :=
  ⟨h.fs.put h.r1 hg hl ht hb ho, own_only h.o2 ho (fun k e hk => (h.x2 k e).2 hk), own_only h.o4 ho (fun k e hk => (h.x4 k e).2 hk)⟩
structure RdMF (U : World) (b gB : Nat) (o : Obj) (v2 v4 : Value) (X : B) : Prop where
  bb : U.heap[gB]? = some o
  o2 : Own U b v2 X
  o4 : Own U b v4 X
structure RdEF (U : World) (gB : Nat) (o : Obj) : Prop where
  bb : U.heap[gB]? = some o
theorem over_shut (s : BS) : overX (shutX s) = true := by
  unfold shutX
  split
  · assumption
  · split
    · unfold overX; simp
    · unfold overX; simp
structure RdLF (U : World) (x gB : Nat) (o : Obj) (v : Value) (pg j : Nat) (u : Value) : Prop where
  x2 : U.cell? ⟨x, 3, none⟩ = some v
  bb : U.heap[gB]? = some o
  pc : U.cell? ⟨pg, j, none⟩ = some u
set_option maxRecDepth 20000 in
set_option maxHeartbeats 32000000 in
theorem bfeeds_y (K N m : Int) (h9 : m ≤ 9223372036854775807) (ls : List B) (p : Option Addr) (n c : Nat) (E : Bool) (hn : ls.length = n) (hnn : n ≤ 140737488355328) (w : World) (hP : PcsX w p ls) (hE : EnvP w) (hEe : EnvE w) (h0 : newE K N m = 0) :
    Calls Tryz.prog 3 #[.agg #[.int .i64 K, .int .i64 N, .int .i64 m, .slice p n c, .bool E]] w fun e w' => e = .returned (.bool true) ∧ Below w.heap.size w w' := by
  have hi0 := inv_new h0 h9
  have hR0 := rel_newB h0
  obtain ⟨n1, n2⟩ := newDK_nil K m
  have HNp := hid (fun (W : World) (hb : Below w.heap.size w W) => newz_as (K := K) (N := N) (m := m) h9 h0 rfl (hE.next hb))
  have HNd := hid (show ∀ W : World, Calls Tryz.prog 7 #[.agg #[.int .i64 K, .int .i64 N], .int .i64 m] W fun e w' => e = .returned (.tuple #[.agg (bdV K N m (newX K N m) (newDK K m) (.slice none 0 0) (.slice none 0 0)), .int .i64 0]) ∧ Below W.heap.size W w' from fun W => (dnew_any K N m h9 W).mono (by
    rintro e w' (⟨h1, _⟩ | ⟨_, rfl, hb2⟩)
    · exact absurd h0 h1
    · exact ⟨rfl, hb2⟩))
  have ht0 : (newX K N m).kind = 3 → (newX K N m).told ≤ 0 * 140737488355328 := fun _ => Nat.zero_le _
  obtain ⟨s0, hs0⟩ : ∃ s0, newX K N m = s0 := ⟨_, rfl⟩
  obtain ⟨d0, hd0⟩ : ∃ d0, newDK K m = d0 := ⟨_, rfl⟩
  rw [hs0] at hi0 hR0 HNp HNd ht0
  rw [hd0] at hR0 HNd n1 n2
  have HI0 := hid hi0
  have HR0 := hid hR0
  have HT0 := hid ht0
  have HN12 := hid (And.intro n1 n2)
  have HSt := hid (fun (w1 w2 : World) (g : Nat) (cp : Option Addr) (h1 : BdAt (fun k => (w.alloc (.cells #[.int .i64 K, .int .i64 N, .int .i64 m, .slice p n c, .bool E] 26 (0, 0))).heap.size ≤ k ∧ k < w1.heap.size) w1 g s0 cp) (hb1 : Below (w.alloc (.cells #[.int .i64 K, .int .i64 N, .int .i64 m, .slice p n c, .bool E] 26 (0, 0))).heap.size (w.alloc (.cells #[.int .i64 K, .int .i64 N, .int .i64 m, .slice p n c, .bool E] 26 (0, 0))) w1) (hb2 : Below w1.heap.size w1 w2) => LFS.start (K := K) (N := N) (m := m) (d := d0) h1 hb1 hb2 n1 n2)
  unfold bdV at HNd HSt
  obtain ⟨mo, le, st, e0, di, si, mr, li, by0, tr, gh⟩ := d0
  dsimp only at HNd HSt
  have HB0 := hid (below_new w (.cells #[.int .i64 K, .int .i64 N, .int .i64 m, .slice p n c, .bool E] 26 (0, 0)))
  have HX0 := hid (heap_alloc_new w (.cells #[.int .i64 K, .int .i64 N, .int .i64 m, .slice p n c, .bool E] 26 (0, 0)))
  have HNm := hid (fun (k : Nat) (W : World) (hb : Below w.heap.size w W) => bnum_any k W (hEe.next hb))
  have HSu := hid (fun (W : World) (hb : Below w.heap.size w W) => sure_any W (hE.next hb))
  have HP := hid hP
  have HN := hid hn
  clear hE hEe h0 h9 hi0 hR0 n1 n2 hs0 hd0 hn hP ht0
  go_enter Tryz.func3, Tryz.ntmps3
  go_wp2_with (first | (go_at_call 6; (with_reducible refine (HNp.out _ HB0.out).mono ?_); rintro e w1 ⟨g, cp0, rfl, hd, hb⟩; have HB1 := hid hb; have HD1 := hid hd; obtain ⟨b0, b1, b2, b3, b4⟩ := five5 (blk_nextD HX0.out hb); clear hd hb HNp) | (go_at_call 7; (with_reducible refine (HNd.out _).mono ?_); rintro e w2 ⟨rfl, hb⟩; have HF0 := hid (HSt.out w1 w2 g cp0 HD1.out HB1.out hb); clear hb HNd b0 b1 b2 b3 b4 HSt HB0))
  obtain ⟨gB, hgB⟩ : ∃ gB, gB = w2.heap.size := ⟨_, rfl⟩
  rw [← hgB] at HF0 ⊢
  clear hgB
  go_loopg [7] (n + 1) (fun gk s7 wr => ∃ (i : Nat) (s : BS) (d : DK) (lp : Option Addr) (ln lc : Nat) (tp : Option Addr) (tn tc : Nat) (cp : Option Addr), s7 = .int .i64 (i : Int) ∧ i ≤ n ∧ gk = n - i + 1 ∧ LFS w wr #[.int .i64 K, .int .i64 N, .int .i64 m, .slice p n c, .bool E] K N m s s d lp ln lc tp tn tc g gB cp ∧ RelB K N m s d ∧ InvX s ∧ (s.kind = 3 → s.told ≤ i * 140737488355328))
  case atStart => exact ⟨0, s0, _, none, 0, 0, none, 0, 0, cp0, rfl, by omega, rfl, HF0.out, relB_gh HR0.out _, HI0.out, HT0.out⟩
  case round =>
    obtain ⟨i, s, d, lp, ln, lc, tp, tn, tc, cp, rfl, hin, rfl, hfs, hR, hi, ht⟩ := hrel
    have HY := hid hfs
    have HR := hid hR
    have HI := hid hi
    have HTo := hid ht
    clear hfs hR hi ht HF0 HB1 HD1 HX0 HI0 HR0 HT0 HN12
    obtain ⟨b0, b1, b2, b3, b4⟩ := five5 HY.out.bx
    by_cases hlt : i < n
    · have hltI : (i : Int) < (n : Int) := by omega
      by_cases h60 : i < 60
      · have h60I : (i : Int) < 60 := by omega
        obtain ⟨l, hl⟩ : ∃ l, ls[i]? = some l := ⟨ls[i]'(by rw [HN.out]; exact hlt), List.getElem?_eq_getElem (by rw [HN.out]; exact hlt)⟩
        obtain ⟨pg, po, q, cc, hp, hc0, hsl, hA0, hlen⟩ := HP.out i l hl
        subst hp
        obtain ⟨L, hL⟩ : ∃ L, l.length = L := ⟨_, rfl⟩
        rw [hL] at hc0 hsl hlen
        have HLn := hid hL
        have HA0 := hid hA0
        have HC0 := hid hc0
        have HSl := hid hsl
        have hc : wr.cell? ⟨pg, po + i, none⟩ = some (.slice q L cc) := cell_keep HY.out.low hc0
        obtain ⟨s1, hs1⟩ : ∃ s1, fedX s l = s1 := ⟨_, rfl⟩
        obtain ⟨T, hT⟩ : ∃ T, tookX s l = T := ⟨_, rfl⟩
        obtain ⟨X, hX⟩ : ∃ X, saidX s l = X := ⟨_, rfl⟩
        obtain ⟨M, hM⟩ : ∃ M, X.length = M := ⟨_, rfl⟩
        obtain ⟨V, hV⟩ : ∃ V, errOf s1.err = V := ⟨_, rfl⟩
        obtain ⟨TT, hTT⟩ : ∃ TT, str X = TT := ⟨_, rfl⟩
        have HV := hid hV
        have HTT := hid hTT
        have HI1 := hid (show InvX s1 from by rw [← hs1]; exact inv_fed HI.out l)
        have HT1 := hid (show s1.kind = 3 → s1.told ≤ (i + 1) * 140737488355328 from by
          rw [← hs1]
          intro h3
          have h5 := fed_kind s l
          have h6 := HTo.out (by omega)
          have h7 := told_fed (s := s) (by omega) l
          have h8 := HLn.out
          omega)
        have HFd := hid (fun (W : World) (q1 : Option Addr) (d1 bb : Nat) (hY : LFS w W #[.int .i64 K, .int .i64 N, .int .i64 m, .slice (some ⟨pg, po, none⟩) n c, .bool E] K N m s s d lp ln lc tp tn tc g gB cp) (ho : Own W bb (.slice q1 L d1) l) (hp : ArgOut d.gh q1 l) => feedx_as hY.r HI.out l q1 L d1 HLn.out ho.cap (own_nil ho) ho.arg hp (by omega) hT hX hM hs1 rfl hV)
        have HFb := hid (fun (W : World) (G : Nat → Prop) (hb : Below w.heap.size w W) (hA : DkAt W { d with gh := G } lp lc tp tc) => dfeedb_any (relB_gh HR.out G) HI.out lp tp ln lc tn tc l q L cc HLn.out W HY.out.hl HY.out.ht hA (HA0.out.next hb) hlen (room_fed HR.out HTo.out h60 (by omega)))
        have HRf := hid (fun (G : Nat → Prop) => show RelB K N m s1 (fedDK s { d with gh := G } l) from by rw [← hs1]; exact rel_fedB (relB_gh HR.out G) HI.out l)
        unfold DFedB at HFb
        rw [hs1, hT, hX, hM] at HFb
        clear hs1 hT hX hM hV hTT hL hc0 hA0 hsl
        go_wp2_with (first | (at_builtin; refine wpList_append_any rfl (.tmp 69) (.tmp 74) rfl wr.heap.size (.slice none 0 0) 0 [] l (by go_simp) (Own.nil _ _) rfl q L cc (by go_simp) HSl.out.len (HA0.out.next HY.out.low) HSl.out.nil (by omega) (Nat.le_refl _) ?_; intro q1 d1 w1 ho hg _; rw [Nat.zero_add] at ho ⊢; rw [List.nil_append] at ho; have HY1 := hid (HY.out.next (below_grown hg)); have HP1 := hid (HFd.out w1 q1 d1 _ HY1.out ho (fun a e _ hG => by subst e; have h5 := own_ge ho (k := a.block) rfl; have h6 := HY.out.rows.g.gl _ hG; omega)); clear ho hg) | (go_at_call 10; (with_reducible refine HP1.out.mono ?_); rintro e w2 ⟨q2, d2, G, cp', rfl, hG⟩; have H2 := hid (HY1.out.turn hG.t); have HO2 := hid hG.body; have HZ1 := hid (show w.heap.size < w1.heap.size ∧ gB < w1.heap.size from ⟨lt_of_heap HY1.out.bx, lt_of_heap HY1.out.bb⟩); clear hG HP1))
        clear b0 b1 b2 b3 b4 hc HFd HY1 HY
        obtain ⟨d1, hd1⟩ : ∃ d1, fedDK s { d with gh := G } l = d1 := ⟨_, rfl⟩
        have HGh := hid (show d1.gh = G from by rw [← hd1]; exact fedDK_gh s _ l)
        have HR1 := hid (HRf.out G)
        have hFc := fun (W : World) (hb : Below w.heap.size w W) (hA : DkAt W { d with gh := G } lp lc tp tc) => HFb.out W G hb hA
        rw [hd1] at HR1 hFc
        unfold bdV at hFc
        obtain ⟨dmo, dle, dst, de, ddi, dsi, dmr, dli, dby, dtr, dgh⟩ := d
        obtain ⟨mo1, le1, st1, e1, di1, si1, mr1, li1, by1, tr1, gh1⟩ := d1
        obtain rfl : gh1 = G := HGh.out
        dsimp only at hFc
        have HFc := hid hFc
        clear hd1 hFc HFb HRf HGh HR
        have HU0 := hid (show LFS w w2.drew #[.int .i64 K, .int .i64 N, .int .i64 m, .slice (some ⟨pg, po, none⟩) n c, .bool E] K N m s1 s ⟨dmo, dle, dst, de, ddi, dsi, dmr, dli, dby, dtr, gh1⟩ lp ln lc tp tn tc g gB cp' from H2.out.drew)
        have HO0 := hid (show Own w2.drew w1.heap.size (.slice q2 M d2) X from HO2.out.keep ⟨rfl, rfl, rfl, Nat.le_refl _, fun _ _ => rfl⟩)
        generalize hW1 : w2.drew = W1 at HU0 HO0
        have HSee := hid (fun (U : World) (h : LFS w U #[.int .i64 K, .int .i64 N, .int .i64 m, .slice (some ⟨pg, po, none⟩) n c, .bool E] K N m s1 s ⟨dmo, dle, dst, de, ddi, dsi, dmr, dli, dby, dtr, gh1⟩ lp ln lc tp tn tc g gB cp') => (show RdLF U w.heap.size gB (.cells #[.int .i64 K, .int .i64 N, .int .i64 m, .int .i64 (s.told : Int), .bool s.done, .int .i64 (s.err : Int), .int .i64 (dmo : Int), .int .i64 (dle : Int), .int .i64 (dst : Int), .int .i64 (de : Int), .int .i64 (ddi : Int), .int .i64 (dsi : Int), .int .i64 (dmr : Int), .slice lp ln lc, .int .i64 (dby : Int), .slice tp tn tc] 37 (0, 0)) (.slice (some ⟨pg, po, none⟩) n c) pg (po + i) (.slice q L cc) from ⟨(five5 h.bx).2.2.2.1, h.bb, cell_keep h.low HC0.out⟩))
        have HZb := hid (show w.heap.size < w1.heap.size ∧ gB < w1.heap.size from HZ1.out)
        refine wp_region_noPanic ?_
        refine any_begin 15 (by kernel_rfl) (by kernel_rfl) ?_
        rw [hW1]
        clear hW1 H2 HO2
        refine late_begin (fun U => RdLF U w.heap.size gB (.cells #[.int .i64 K, .int .i64 N, .int .i64 m, .int .i64 (s.told : Int), .bool s.done, .int .i64 (s.err : Int), .int .i64 (dmo : Int), .int .i64 (dle : Int), .int .i64 (dst : Int), .int .i64 (de : Int), .int .i64 (ddi : Int), .int .i64 (dsi : Int), .int .i64 (dmr : Int), .slice lp ln lc, .int .i64 (dby : Int), .slice tp tn tc] 37 (0, 0)) (.slice (some ⟨pg, po, none⟩) n c) pg (po + i) (.slice q L cc)) (fun _ => false) (HSee.out W1 HU0.out) (fun hS => ?_)
        refine late_take (i := 0) (some 82) rfl rfl (by kernel_rfl) (by kernel_rfl) (by kernel_rfl) (by kernel_rfl) (by kernel_rfl) (fun _ _ _ h => h) (by rfl) (v := .agg #[.int .i64 K, .int .i64 N, .int .i64 m, .int .i64 (s.told : Int), .bool s.done, .int .i64 (s.err : Int), .int .i64 (dmo : Int), .int .i64 (dle : Int), .int .i64 (dst : Int), .int .i64 (de : Int), .int .i64 (ddi : Int), .int .i64 (dsi : Int), .int .i64 (dmr : Int), .slice lp ln lc, .int .i64 (dby : Int), .slice tp tn tc]) ?hy0a hS ?rest0a
        case hy0a => intro w0 hSw; have a3 := hSw.x2; have ap := hSw.pc; obtain ⟨y0, y1, y2, y3, y4, y5, y6, y7, y8, y9, y10, y11, y12, y13, y14, y15, _⟩ := cells16 hSw.bb; go_simp; try with_reducible rfl
        simp only [Act.put, List.setIfInBounds_toArray, List.set_cons_zero, List.set_cons_succ]
        refine late_take (i := 1) (some 83) rfl rfl (by kernel_rfl) (by kernel_rfl) (by kernel_rfl) (by kernel_rfl) (by kernel_rfl) (fun _ _ _ h => h) (by rfl) (v := ?v1a) ?hy1a hS ?rest1a
        case hy1a => intro w0 hSw; have a3 := hSw.x2; have ap := hSw.pc; obtain ⟨y0, y1, y2, y3, y4, y5, y6, y7, y8, y9, y10, y11, y12, y13, y14, y15, _⟩ := cells16 hSw.bb; go_simp; try with_reducible rfl
        simp only [Act.put, List.setIfInBounds_toArray, List.set_cons_zero, List.set_cons_succ]
        refine late_take (i := 2) (some 84) rfl rfl (by kernel_rfl) (by kernel_rfl) (by kernel_rfl) (by kernel_rfl) (by kernel_rfl) (fun _ _ _ h => h) (by rfl) (v := ?v2a) ?hy2a hS ?rest2a
        case hy2a => intro w0 hSw; have a3 := hSw.x2; have ap := hSw.pc; obtain ⟨y0, y1, y2, y3, y4, y5, y6, y7, y8, y9, y10, y11, y12, y13, y14, y15, _⟩ := cells16 hSw.bb; go_simp; try with_reducible rfl
        simp only [Act.put, List.setIfInBounds_toArray, List.set_cons_zero, List.set_cons_succ]
        refine late_take (i := 3) (some 85) rfl rfl (by kernel_rfl) (by kernel_rfl) (by kernel_rfl) (by kernel_rfl) (by kernel_rfl) (fun _ _ _ h => h) (by rfl) (v := ?v3a) ?hy3a hS ?rest3a
        case hy3a => intro w0 hSw; have a3 := hSw.x2; have ap := hSw.pc; obtain ⟨y0, y1, y2, y3, y4, y5, y6, y7, y8, y9, y10, y11, y12, y13, y14, y15, _⟩ := cells16 hSw.bb; go_simp; try with_reducible rfl
        simp only [Act.put, List.setIfInBounds_toArray, List.set_cons_zero, List.set_cons_succ]
        refine late_take (i := 4) (some 86) rfl rfl (by kernel_rfl) (by kernel_rfl) (by kernel_rfl) (by kernel_rfl) (by kernel_rfl) (fun _ _ _ h => h) (by rfl) (v := ?v4a) ?hy4a hS ?rest4a
        case hy4a => intro w0 hSw; have a3 := hSw.x2; have ap := hSw.pc; obtain ⟨y0, y1, y2, y3, y4, y5, y6, y7, y8, y9, y10, y11, y12, y13, y14, y15, _⟩ := cells16 hSw.bb; go_simp; try with_reducible rfl
        simp only [Act.put, List.setIfInBounds_toArray, List.set_cons_zero, List.set_cons_succ]
        refine late_take (i := 5) (some 87) rfl rfl (by kernel_rfl) (by kernel_rfl) (by kernel_rfl) (by kernel_rfl) (by kernel_rfl) (fun _ _ _ h => h) (by rfl) (v := ?v5a) ?hy5a hS ?rest5a
        case hy5a => intro w0 hSw; have a3 := hSw.x2; have ap := hSw.pc; obtain ⟨y0, y1, y2, y3, y4, y5, y6, y7, y8, y9, y10, y11, y12, y13, y14, y15, _⟩ := cells16 hSw.bb; go_simp; try with_reducible rfl
        simp only [Act.put, List.setIfInBounds_toArray, List.set_cons_zero, List.set_cons_succ]
        refine wpAnyD_twoD (i := 6) (j := 11) (by kernel_rfl) rfl rfl (fun K' hK => ?_) (fun K' hK => ?_)
        · as_aux_lemma =>
            go_simp
            go_at_call 11
            refine (HFc.out W1 HU0.out.low HU0.out.rows).mono ?_
            rintro e w4 ⟨lp1, ln1, lc1, tp1, tn1, tc1, q4, d4, rfl, hl1, ht1, hr1, ho1, hb1⟩
            have H4 := hid (HU0.out.next hb1)
            have HL1 := hid hl1
            have HT9 := hid ht1
            have hS4 := HSee.out _ H4.out
            refine hK _ _ ⟨fun _ => hS4, ?_⟩
            clear hK K'
            refine late_take (i := 7) (some 81) rfl rfl (by kernel_rfl) (by kernel_rfl) (by kernel_rfl) (by kernel_rfl) (by kernel_rfl) (fun _ _ _ h => h) (by rfl) (v := ?v7b) ?hy7b hS4 ?rest7b
            case hy7b => intro w0 hSw; have a3 := hSw.x2; have ap := hSw.pc; obtain ⟨y0, y1, y2, y3, y4, y5, y6, y7, y8, y9, y10, y11, y12, y13, y14, y15, _⟩ := cells16 hSw.bb; go_simp; try with_reducible rfl
            simp only [Act.put, List.setIfInBounds_toArray, List.set_cons_zero, List.set_cons_succ]
            refine late_take (i := 8) (some 89) rfl rfl (by kernel_rfl) (by kernel_rfl) (by kernel_rfl) (by kernel_rfl) (by kernel_rfl) (fun _ _ _ h => h) (by rfl) (v := ?v8b) ?hy8b hS4 ?rest8b
            case hy8b => intro w0 hSw; have a3 := hSw.x2; have ap := hSw.pc; obtain ⟨y0, y1, y2, y3, y4, y5, y6, y7, y8, y9, y10, y11, y12, y13, y14, y15, _⟩ := cells16 hSw.bb; go_simp; try with_reducible rfl
            simp only [Act.put, List.setIfInBounds_toArray, List.set_cons_zero, List.set_cons_succ]
            refine late_take (i := 9) (some 90) rfl rfl (by kernel_rfl) (by kernel_rfl) (by kernel_rfl) (by kernel_rfl) (by kernel_rfl) (fun _ _ _ h => h) (by rfl) (v := ?v9b) ?hy9b hS4 ?rest9b
            case hy9b => intro w0 hSw; have a3 := hSw.x2; have ap := hSw.pc; obtain ⟨y0, y1, y2, y3, y4, y5, y6, y7, y8, y9, y10, y11, y12, y13, y14, y15, _⟩ := cells16 hSw.bb; go_simp; try with_reducible rfl
            simp only [Act.put, List.setIfInBounds_toArray, List.set_cons_zero, List.set_cons_succ]
            refine late_take (i := 10) (some 91) rfl rfl (by kernel_rfl) (by kernel_rfl) (by kernel_rfl) (by kernel_rfl) (by kernel_rfl) (fun _ _ _ h => h) (by rfl) (v := ?v10b) ?hy10b hS4 ?rest10b
            case hy10b => intro w0 hSw; have a3 := hSw.x2; have ap := hSw.pc; obtain ⟨y0, y1, y2, y3, y4, y5, y6, y7, y8, y9, y10, y11, y12, y13, y14, y15, _⟩ := cells16 hSw.bb; go_simp; try with_reducible rfl
            simp only [Act.put, List.setIfInBounds_toArray, List.set_cons_zero, List.set_cons_succ]
            refine wpAnyD_one (i := 11) (by kernel_rfl) rfl (fun K' hK => ?_)
            go_simp
            refine hK _ _ ⟨fun _ => HSee.out _ (H4.out.next (below_new w4 (.cells #[.int .i64 0, .int .i64 0, .int .i64 0, .int .i64 0, .bool false, .int .i64 0, .int .i64 0, .int .i64 0, .int .i64 0, .int .i64 0, .int .i64 0, .int .i64 0, .int .i64 0, .slice none 0 0, .int .i64 0, .slice none 0 0] 37 (0, 0)))), ?_⟩
            clear hK K'
            have HN0 := hid (show LFN w (w4.alloc (.cells #[.int .i64 0, .int .i64 0, .int .i64 0, .int .i64 0, .bool false, .int .i64 0, .int .i64 0, .int .i64 0, .int .i64 0, .int .i64 0, .int .i64 0, .int .i64 0, .int .i64 0, .slice none 0 0, .int .i64 0, .slice none 0 0] 37 (0, 0))) #[.int .i64 K, .int .i64 N, .int .i64 m, .slice (some ⟨pg, po, none⟩) n c, .bool E] K N m s1 s ⟨dmo, dle, dst, de, ddi, dsi, dmr, dli, dby, dtr, gh1⟩ lp ln lc tp tn tc g gB cp' w4.heap.size #[.int .i64 0, .int .i64 0, .int .i64 0, .int .i64 0, .bool false, .int .i64 0, .int .i64 0, .int .i64 0, .int .i64 0, .int .i64 0, .int .i64 0, .int .i64 0, .int .i64 0, .slice none 0 0, .int .i64 0, .slice none 0 0] ⟨mo1, le1, st1, e1, di1, si1, mr1, li1, by1, tr1, gh1⟩ lp1 lc1 tp1 tc1 (.slice q2 M d2) (.slice q4 M d4) X from ⟨H4.out.next (below_new w4 _), heap_alloc_new w4 _, lt_of_heap H4.out.bx, fun e => Nat.lt_irrefl _ (by have := lt_of_heap H4.out.bb; rw [← e] at this; exact this), fun h => Nat.lt_irrefl _ (H4.out.rows.g.gl _ h), hr1.next (below_new w4 _), (own_base (HO0.out.keep hb1) (Nat.le_of_lt HZb.out.1)).keep (below_new w4 _), (own_base ho1 HU0.out.low.size).keep (below_new w4 _), fun k e => ⟨fun e2 => by have h5 := ys_lt (own_low0 HO0.out) e; have h6 := hb1.size; omega, fun e2 => by have h5 := own_ge HO0.out e; have h6 := HZb.out.2; omega⟩, fun k e => ⟨fun e2 => by have h5 := ys_lt (own_low0 ho1) e; omega, fun e2 => by have h5 := own_ge ho1 e; have h6 := lt_of_heap HU0.out.bb; omega⟩⟩)
            generalize hX4 : w4.alloc (.cells #[.int .i64 0, .int .i64 0, .int .i64 0, .int .i64 0, .bool false, .int .i64 0, .int .i64 0, .int .i64 0, .int .i64 0, .int .i64 0, .int .i64 0, .int .i64 0, .int .i64 0, .slice none 0 0, .int .i64 0, .slice none 0 0] 37 (0, 0)) = Y4 at HN0 ⊢
            generalize hg13 : w4.heap.size = g13 at HN0 ⊢
            clear hX4 hg13 hS hS4 hl1 ht1 hr1 ho1 hb1 H4 HU0 HO0
            refine wpAnyD_one (i := 12) (by kernel_rfl) rfl (fun K' hK => ?_)
            rw [if_pos (by rfl)]
            refine wp_store_bd (.tmp 13) (.tmp 89) rfl g13 (by go_simp) K N m (s1.told : Int) s1.done (s1.err : Int) (mo1 : Int) (le1 : Int) (st1 : Int) (e1 : Int) (di1 : Int) (si1 : Int) (mr1 : Int) (by1 : Int) lp1 tp1 ln1 tn1 lc1 tc1 (by go_simp) HN0.out.z ?_
            intro U5 hU5 hO5 _
            have HN5 := hid (HN0.out.store (box_free HN0.out.z) hU5 hO5)
            have hS5 := HSee.out _ HN5.out.fs
            show K' (Act.put _ none _) _
            refine hK _ _ ⟨fun _ => hS5, ?_⟩
            clear hK K' hU5 hO5 HN0
            (try simp only [Act.put])
            refine late_take (i := 13) (some 14) rfl rfl (by kernel_rfl) (by kernel_rfl) (by kernel_rfl) (by kernel_rfl) (by kernel_rfl) (fun _ _ _ h => h) (by rfl) (v := ?v13Az) ?hy13Az hS5 ?rest13Az
            case hy13Az => intro w0 hSw; have a3 := hSw.x2; have ap := hSw.pc; obtain ⟨y0, y1, y2, y3, y4, y5, y6, y7, y8, y9, y10, y11, y12, y13, y14, y15, _⟩ := cells16 hSw.bb; go_simp; try with_reducible rfl
            simp only [Act.put, List.setIfInBounds_toArray, List.set_cons_zero, List.set_cons_succ]
            refine late_take (i := 14) (some 15) rfl rfl (by kernel_rfl) (by kernel_rfl) (by kernel_rfl) (by kernel_rfl) (by kernel_rfl) (fun _ _ _ h => h) (by rfl) (v := ?v14Az) ?hy14Az hS5 ?rest14Az
            case hy14Az => intro w0 hSw; have a3 := hSw.x2; have ap := hSw.pc; obtain ⟨y0, y1, y2, y3, y4, y5, y6, y7, y8, y9, y10, y11, y12, y13, y14, y15, _⟩ := cells16 hSw.bb; go_simp; try with_reducible rfl
            simp only [Act.put, List.setIfInBounds_toArray, List.set_cons_zero, List.set_cons_succ]
            refine late_done (by kernel_rfl) ?_ _
            refine NoPanic.normal ?_
            clear hS5
            obtain ⟨n0, n1, n2, n3, n4, n5, n6, n7, n8, n9, n10, n11, n12, n13, n14, n15, _⟩ := cells16 HN5.out.z
            go_wp2_with (refine wpList_store_bd rfl (.tmp 5) (.tmp 92) rfl gB (by go_simp) K N m (s1.told : Int) s1.done (s1.err : Int) (mo1 : Int) (le1 : Int) (st1 : Int) (e1 : Int) (di1 : Int) (si1 : Int) (mr1 : Int) (by1 : Int) lp1 tp1 ln1 tn1 lc1 tc1 (by go_simp) HN5.out.fs.bb ?_; intro U6 hV hO _; have HN6 := hid (HN5.out.put (d1 := ⟨mo1, le1, st1, e1, di1, si1, mr1, li1, by1, tr1, gh1⟩) rfl HL1.out HT9.out hV hO); clear hV hO HN5)
            clear n0 n1 n2 n3 n4 n5 n6 n7 n8 n9 n10 n11 n12 n13 n14 n15
            have H7 := hid (show (LFS w U6.drew #[.int .i64 K, .int .i64 N, .int .i64 m, .slice (some ⟨pg, po, none⟩) n c, .bool E] K N m s1 s1 ⟨mo1, le1, st1, e1, di1, si1, mr1, li1, by1, tr1, gh1⟩ lp1 ln1 lc1 tp1 tn1 tc1 g gB cp') ∧ Own U6.drew w.heap.size (.slice q2 M d2) X ∧ Own U6.drew w.heap.size (.slice q4 M d4) X from ⟨HN6.out.1.drew, HN6.out.2.1.keep ⟨rfl, rfl, rfl, Nat.le_refl _, fun _ _ => rfl⟩, HN6.out.2.2.keep ⟨rfl, rfl, rfl, Nat.le_refl _, fun _ _ => rfl⟩⟩)
            have HNm1 := hid (HNm.out s1.err)
            rw [HV.out] at HNm1
            generalize hW7 : U6.drew = W7 at H7
            refine wp_region_noPanic ?_
            refine any_begin 37 (by kernel_rfl) (by kernel_rfl) ?_
            rw [hW7]
            clear hW7 HN6
            refine late_begin (fun U => RdMF U w.heap.size gB (.cells #[.int .i64 K, .int .i64 N, .int .i64 m, .int .i64 (s1.told : Int), .bool s1.done, .int .i64 (s1.err : Int), .int .i64 (mo1 : Int), .int .i64 (le1 : Int), .int .i64 (st1 : Int), .int .i64 (e1 : Int), .int .i64 (di1 : Int), .int .i64 (si1 : Int), .int .i64 (mr1 : Int), .slice lp1 ln1 lc1, .int .i64 (by1 : Int), .slice tp1 tn1 tc1] 37 (0, 0)) (.slice q2 M d2) (.slice q4 M d4) X) (fun _ => false) (show RdMF W7 w.heap.size gB (.cells #[.int .i64 K, .int .i64 N, .int .i64 m, .int .i64 (s1.told : Int), .bool s1.done, .int .i64 (s1.err : Int), .int .i64 (mo1 : Int), .int .i64 (le1 : Int), .int .i64 (st1 : Int), .int .i64 (e1 : Int), .int .i64 (di1 : Int), .int .i64 (si1 : Int), .int .i64 (mr1 : Int), .slice lp1 ln1 lc1, .int .i64 (by1 : Int), .slice tp1 tn1 tc1] 37 (0, 0)) (.slice q2 M d2) (.slice q4 M d4) X from ⟨H7.out.1.bb, H7.out.2.1, H7.out.2.2⟩) (fun hS => ?_)
            refine late_take (i := 0) (some 93) rfl rfl (by kernel_rfl) (by kernel_rfl) (by kernel_rfl) (by kernel_rfl) (by kernel_rfl) (fun _ _ _ h => h) (by rfl) (v := ?v0Am) ?hy0Am hS ?rest0Am
            case hy0Am => intro w0 hSw; have c1 := conv_own hSw.o2; have c2 := conv_own hSw.o4; rw [HTT.out] at c1 c2; obtain ⟨y0, y1, y2, y3, y4, y5, y6, y7, y8, y9, y10, y11, y12, y13, y14, y15, _⟩ := cells16 hSw.bb; go_simp; try with_reducible rfl
            simp only [Act.put, List.setIfInBounds_toArray, List.set_cons_zero, List.set_cons_succ]
            refine late_take (i := 1) (some 94) rfl rfl (by kernel_rfl) (by kernel_rfl) (by kernel_rfl) (by kernel_rfl) (by kernel_rfl) (fun _ _ _ h => h) (by rfl) (v := ?v1Am) ?hy1Am hS ?rest1Am
            case hy1Am => intro w0 hSw; have c1 := conv_own hSw.o2; have c2 := conv_own hSw.o4; rw [HTT.out] at c1 c2; obtain ⟨y0, y1, y2, y3, y4, y5, y6, y7, y8, y9, y10, y11, y12, y13, y14, y15, _⟩ := cells16 hSw.bb; go_simp; try with_reducible rfl
            simp only [Act.put, List.setIfInBounds_toArray, List.set_cons_zero, List.set_cons_succ]
            refine late_take (i := 2) (some 95) rfl rfl (by kernel_rfl) (by kernel_rfl) (by kernel_rfl) (by kernel_rfl) (by kernel_rfl) (fun _ _ _ h => h) (by rfl) (v := ?v2Am) ?hy2Am hS ?rest2Am
            case hy2Am => intro w0 hSw; have c1 := conv_own hSw.o2; have c2 := conv_own hSw.o4; rw [HTT.out] at c1 c2; obtain ⟨y0, y1, y2, y3, y4, y5, y6, y7, y8, y9, y10, y11, y12, y13, y14, y15, _⟩ := cells16 hSw.bb; go_simp; try with_reducible rfl
            simp only [Act.put, List.setIfInBounds_toArray, List.set_cons_zero, List.set_cons_succ]
            refine late_take (i := 3) (some 96) rfl rfl (by kernel_rfl) (by kernel_rfl) (by kernel_rfl) (by kernel_rfl) (by kernel_rfl) (fun _ _ _ h => h) (by rfl) (v := ?v3Am) ?hy3Am hS ?rest3Am
            case hy3Am => intro w0 hSw; have c1 := conv_own hSw.o2; have c2 := conv_own hSw.o4; rw [HTT.out] at c1 c2; obtain ⟨y0, y1, y2, y3, y4, y5, y6, y7, y8, y9, y10, y11, y12, y13, y14, y15, _⟩ := cells16 hSw.bb; go_simp; try with_reducible rfl
            simp only [Act.put, List.setIfInBounds_toArray, List.set_cons_zero, List.set_cons_succ]
            refine late_take (i := 4) (some 97) rfl rfl (by kernel_rfl) (by kernel_rfl) (by kernel_rfl) (by kernel_rfl) (by kernel_rfl) (fun _ _ _ h => h) (by rfl) (v := ?v4Am) ?hy4Am hS ?rest4Am
            case hy4Am => intro w0 hSw; have c1 := conv_own hSw.o2; have c2 := conv_own hSw.o4; rw [HTT.out] at c1 c2; obtain ⟨y0, y1, y2, y3, y4, y5, y6, y7, y8, y9, y10, y11, y12, y13, y14, y15, _⟩ := cells16 hSw.bb; go_simp; try with_reducible rfl
            simp only [Act.put, List.setIfInBounds_toArray, List.set_cons_zero, List.set_cons_succ]
            refine late_take (i := 5) (some 98) rfl rfl (by kernel_rfl) (by kernel_rfl) (by kernel_rfl) (by kernel_rfl) (by kernel_rfl) (fun _ _ _ h => h) (by rfl) (v := ?v5Am) ?hy5Am hS ?rest5Am
            case hy5Am => intro w0 hSw; have c1 := conv_own hSw.o2; have c2 := conv_own hSw.o4; rw [HTT.out] at c1 c2; obtain ⟨y0, y1, y2, y3, y4, y5, y6, y7, y8, y9, y10, y11, y12, y13, y14, y15, _⟩ := cells16 hSw.bb; go_simp; try with_reducible rfl
            simp only [Act.put, List.setIfInBounds_toArray, List.set_cons_zero, List.set_cons_succ]
            refine late_take (i := 6) (some 99) rfl rfl (by kernel_rfl) (by kernel_rfl) (by kernel_rfl) (by kernel_rfl) (by kernel_rfl) (fun _ _ _ h => h) (by rfl) (v := ?v6Am) ?hy6Am hS ?rest6Am
            case hy6Am => intro w0 hSw; have c1 := conv_own hSw.o2; have c2 := conv_own hSw.o4; rw [HTT.out] at c1 c2; obtain ⟨y0, y1, y2, y3, y4, y5, y6, y7, y8, y9, y10, y11, y12, y13, y14, y15, _⟩ := cells16 hSw.bb; go_simp; try with_reducible rfl
            simp only [Act.put, List.setIfInBounds_toArray, List.set_cons_zero, List.set_cons_succ]
            refine late_take (i := 7) (some 100) rfl rfl (by kernel_rfl) (by kernel_rfl) (by kernel_rfl) (by kernel_rfl) (by kernel_rfl) (fun _ _ _ h => h) (by rfl) (v := ?v7Am) ?hy7Am hS ?rest7Am
            case hy7Am => intro w0 hSw; have c1 := conv_own hSw.o2; have c2 := conv_own hSw.o4; rw [HTT.out] at c1 c2; obtain ⟨y0, y1, y2, y3, y4, y5, y6, y7, y8, y9, y10, y11, y12, y13, y14, y15, _⟩ := cells16 hSw.bb; go_simp; try with_reducible rfl
            simp only [Act.put, List.setIfInBounds_toArray, List.set_cons_zero, List.set_cons_succ]
            refine late_take (i := 8) (some 101) rfl rfl (by kernel_rfl) (by kernel_rfl) (by kernel_rfl) (by kernel_rfl) (by kernel_rfl) (fun _ _ _ h => h) (by rfl) (v := ?v8Am) ?hy8Am hS ?rest8Am
            case hy8Am => intro w0 hSw; have c1 := conv_own hSw.o2; have c2 := conv_own hSw.o4; rw [HTT.out] at c1 c2; obtain ⟨y0, y1, y2, y3, y4, y5, y6, y7, y8, y9, y10, y11, y12, y13, y14, y15, _⟩ := cells16 hSw.bb; go_simp; try with_reducible rfl
            simp only [Act.put, List.setIfInBounds_toArray, List.set_cons_zero, List.set_cons_succ]
            refine late_take (i := 9) (some 102) rfl rfl (by kernel_rfl) (by kernel_rfl) (by kernel_rfl) (by kernel_rfl) (by kernel_rfl) (fun _ _ _ h => h) (by rfl) (v := ?v9Am) ?hy9Am hS ?rest9Am
            case hy9Am => intro w0 hSw; have c1 := conv_own hSw.o2; have c2 := conv_own hSw.o4; rw [HTT.out] at c1 c2; obtain ⟨y0, y1, y2, y3, y4, y5, y6, y7, y8, y9, y10, y11, y12, y13, y14, y15, _⟩ := cells16 hSw.bb; go_simp; try with_reducible rfl
            simp only [Act.put, List.setIfInBounds_toArray, List.set_cons_zero, List.set_cons_succ]
            refine late_take (i := 10) (some 103) rfl rfl (by kernel_rfl) (by kernel_rfl) (by kernel_rfl) (by kernel_rfl) (by kernel_rfl) (fun _ _ _ h => h) (by rfl) (v := ?v10Am) ?hy10Am hS ?rest10Am
            case hy10Am => intro w0 hSw; have c1 := conv_own hSw.o2; have c2 := conv_own hSw.o4; rw [HTT.out] at c1 c2; obtain ⟨y0, y1, y2, y3, y4, y5, y6, y7, y8, y9, y10, y11, y12, y13, y14, y15, _⟩ := cells16 hSw.bb; go_simp; try with_reducible rfl
            simp only [Act.put, List.setIfInBounds_toArray, List.set_cons_zero, List.set_cons_succ]
            refine late_take (i := 11) (some 104) rfl rfl (by kernel_rfl) (by kernel_rfl) (by kernel_rfl) (by kernel_rfl) (by kernel_rfl) (fun _ _ _ h => h) (by rfl) (v := ?v11Am) ?hy11Am hS ?rest11Am
            case hy11Am => intro w0 hSw; have c1 := conv_own hSw.o2; have c2 := conv_own hSw.o4; rw [HTT.out] at c1 c2; obtain ⟨y0, y1, y2, y3, y4, y5, y6, y7, y8, y9, y10, y11, y12, y13, y14, y15, _⟩ := cells16 hSw.bb; go_simp; try with_reducible rfl
            simp only [Act.put, List.setIfInBounds_toArray, List.set_cons_zero, List.set_cons_succ]
            refine late_take (i := 12) (some 105) rfl rfl (by kernel_rfl) (by kernel_rfl) (by kernel_rfl) (by kernel_rfl) (by kernel_rfl) (fun _ _ _ h => h) (by rfl) (v := ?v12Am) ?hy12Am hS ?rest12Am
            case hy12Am => intro w0 hSw; have c1 := conv_own hSw.o2; have c2 := conv_own hSw.o4; rw [HTT.out] at c1 c2; obtain ⟨y0, y1, y2, y3, y4, y5, y6, y7, y8, y9, y10, y11, y12, y13, y14, y15, _⟩ := cells16 hSw.bb; go_simp; try with_reducible rfl
            simp only [Act.put, List.setIfInBounds_toArray, List.set_cons_zero, List.set_cons_succ]
            refine late_take (i := 13) (some 106) rfl rfl (by kernel_rfl) (by kernel_rfl) (by kernel_rfl) (by kernel_rfl) (by kernel_rfl) (fun _ _ _ h => h) (by rfl) (v := ?v13Am) ?hy13Am hS ?rest13Am
            case hy13Am => intro w0 hSw; have c1 := conv_own hSw.o2; have c2 := conv_own hSw.o4; rw [HTT.out] at c1 c2; obtain ⟨y0, y1, y2, y3, y4, y5, y6, y7, y8, y9, y10, y11, y12, y13, y14, y15, _⟩ := cells16 hSw.bb; go_simp; try with_reducible rfl
            simp only [Act.put, List.setIfInBounds_toArray, List.set_cons_zero, List.set_cons_succ]
            refine late_take (i := 14) (some 107) rfl rfl (by kernel_rfl) (by kernel_rfl) (by kernel_rfl) (by kernel_rfl) (by kernel_rfl) (fun _ _ _ h => h) (by rfl) (v := ?v14Am) ?hy14Am hS ?rest14Am
            case hy14Am => intro w0 hSw; have c1 := conv_own hSw.o2; have c2 := conv_own hSw.o4; rw [HTT.out] at c1 c2; obtain ⟨y0, y1, y2, y3, y4, y5, y6, y7, y8, y9, y10, y11, y12, y13, y14, y15, _⟩ := cells16 hSw.bb; go_simp; try with_reducible rfl
            simp only [Act.put, List.setIfInBounds_toArray, List.set_cons_zero, List.set_cons_succ]
            refine late_take (i := 15) (some 108) rfl rfl (by kernel_rfl) (by kernel_rfl) (by kernel_rfl) (by kernel_rfl) (by kernel_rfl) (fun _ _ _ h => h) (by rfl) (v := ?v15Am) ?hy15Am hS ?rest15Am
            case hy15Am => intro w0 hSw; have c1 := conv_own hSw.o2; have c2 := conv_own hSw.o4; rw [HTT.out] at c1 c2; obtain ⟨y0, y1, y2, y3, y4, y5, y6, y7, y8, y9, y10, y11, y12, y13, y14, y15, _⟩ := cells16 hSw.bb; go_simp; try with_reducible rfl
            simp only [Act.put, List.setIfInBounds_toArray, List.set_cons_zero, List.set_cons_succ]
            refine late_take (i := 16) (some 109) rfl rfl (by kernel_rfl) (by kernel_rfl) (by kernel_rfl) (by kernel_rfl) (by kernel_rfl) (fun _ _ _ h => h) (by rfl) (v := ?v16Am) ?hy16Am hS ?rest16Am
            case hy16Am => intro w0 hSw; have c1 := conv_own hSw.o2; have c2 := conv_own hSw.o4; rw [HTT.out] at c1 c2; obtain ⟨y0, y1, y2, y3, y4, y5, y6, y7, y8, y9, y10, y11, y12, y13, y14, y15, _⟩ := cells16 hSw.bb; go_simp; try with_reducible rfl
            simp only [Act.put, List.setIfInBounds_toArray, List.set_cons_zero, List.set_cons_succ]
            refine late_take (i := 17) (some 110) rfl rfl (by kernel_rfl) (by kernel_rfl) (by kernel_rfl) (by kernel_rfl) (by kernel_rfl) (fun _ _ _ h => h) (by rfl) (v := ?v17Am) ?hy17Am hS ?rest17Am
            case hy17Am => intro w0 hSw; have c1 := conv_own hSw.o2; have c2 := conv_own hSw.o4; rw [HTT.out] at c1 c2; obtain ⟨y0, y1, y2, y3, y4, y5, y6, y7, y8, y9, y10, y11, y12, y13, y14, y15, _⟩ := cells16 hSw.bb; go_simp; try with_reducible rfl
            simp only [Act.put, List.setIfInBounds_toArray, List.set_cons_zero, List.set_cons_succ]
            refine late_take (i := 19) (some 112) rfl rfl (by kernel_rfl) (by kernel_rfl) (by kernel_rfl) (by kernel_rfl) (by kernel_rfl) (fun _ _ _ h => h) (by rfl) (v := ?v19Am) ?hy19Am hS ?rest19Am
            case hy19Am => intro w0 hSw; have c1 := conv_own hSw.o2; have c2 := conv_own hSw.o4; rw [HTT.out] at c1 c2; obtain ⟨y0, y1, y2, y3, y4, y5, y6, y7, y8, y9, y10, y11, y12, y13, y14, y15, _⟩ := cells16 hSw.bb; go_simp; try with_reducible rfl
            simp only [Act.put, List.setIfInBounds_toArray, List.set_cons_zero, List.set_cons_succ]
            refine late_take (i := 20) (some 113) rfl rfl (by kernel_rfl) (by kernel_rfl) (by kernel_rfl) (by kernel_rfl) (by kernel_rfl) (fun _ _ _ h => h) (by rfl) (v := ?v20Am) ?hy20Am hS ?rest20Am
            case hy20Am => intro w0 hSw; have c1 := conv_own hSw.o2; have c2 := conv_own hSw.o4; rw [HTT.out] at c1 c2; obtain ⟨y0, y1, y2, y3, y4, y5, y6, y7, y8, y9, y10, y11, y12, y13, y14, y15, _⟩ := cells16 hSw.bb; go_simp; try with_reducible rfl
            simp only [Act.put, List.setIfInBounds_toArray, List.set_cons_zero, List.set_cons_succ]
            refine wpAnyD_one (i := 18) (by kernel_rfl) rfl (fun K' hK => ?_)
            go_simp
            go_at_call 8
            refine (HNm1.out _ H7.out.1.low).mono ?_
            rintro e w8 ⟨rfl, hb8⟩
            have H8 := hid (And.intro (H7.out.1.next hb8) (And.intro (H7.out.2.1.keep hb8) (H7.out.2.2.keep hb8)))
            have hS8 : RdMF w8 w.heap.size gB (.cells #[.int .i64 K, .int .i64 N, .int .i64 m, .int .i64 (s1.told : Int), .bool s1.done, .int .i64 (s1.err : Int), .int .i64 (mo1 : Int), .int .i64 (le1 : Int), .int .i64 (st1 : Int), .int .i64 (e1 : Int), .int .i64 (di1 : Int), .int .i64 (si1 : Int), .int .i64 (mr1 : Int), .slice lp1 ln1 lc1, .int .i64 (by1 : Int), .slice tp1 tn1 tc1] 37 (0, 0)) (.slice q2 M d2) (.slice q4 M d4) X := ⟨H8.out.1.bb, H8.out.2.1, H8.out.2.2⟩
            refine hK _ _ ⟨fun _ => hS8, ?_⟩
            clear hK K' hb8 hS H7
            refine late_take (i := 21) (some 114) rfl rfl (by kernel_rfl) (by kernel_rfl) (by kernel_rfl) (by kernel_rfl) (by kernel_rfl) (fun _ _ _ h => h) (by rfl) (v := ?v21Am) ?hy21Am hS8 ?rest21Am
            case hy21Am => intro w0 hSw; have c1 := conv_own hSw.o2; have c2 := conv_own hSw.o4; rw [HTT.out] at c1 c2; obtain ⟨y0, y1, y2, y3, y4, y5, y6, y7, y8, y9, y10, y11, y12, y13, y14, y15, _⟩ := cells16 hSw.bb; go_simp; try with_reducible rfl
            simp only [Act.put, List.setIfInBounds_toArray, List.set_cons_zero, List.set_cons_succ]
            refine late_take (i := 22) (some 115) rfl rfl (by kernel_rfl) (by kernel_rfl) (by kernel_rfl) (by kernel_rfl) (by kernel_rfl) (fun _ _ _ h => h) (by rfl) (v := ?v22Am) ?hy22Am hS8 ?rest22Am
            case hy22Am => intro w0 hSw; have c1 := conv_own hSw.o2; have c2 := conv_own hSw.o4; rw [HTT.out] at c1 c2; obtain ⟨y0, y1, y2, y3, y4, y5, y6, y7, y8, y9, y10, y11, y12, y13, y14, y15, _⟩ := cells16 hSw.bb; go_simp; try with_reducible rfl
            simp only [Act.put, List.setIfInBounds_toArray, List.set_cons_zero, List.set_cons_succ]
            refine late_take (i := 23) (some 116) rfl rfl (by kernel_rfl) (by kernel_rfl) (by kernel_rfl) (by kernel_rfl) (by kernel_rfl) (fun _ _ _ h => h) (by rfl) (v := ?v23Am) ?hy23Am hS8 ?rest23Am
            case hy23Am => intro w0 hSw; have c1 := conv_own hSw.o2; have c2 := conv_own hSw.o4; rw [HTT.out] at c1 c2; obtain ⟨y0, y1, y2, y3, y4, y5, y6, y7, y8, y9, y10, y11, y12, y13, y14, y15, _⟩ := cells16 hSw.bb; go_simp; try with_reducible rfl
            simp only [Act.put, List.setIfInBounds_toArray, List.set_cons_zero, List.set_cons_succ]
            refine late_take (i := 24) (some 117) rfl rfl (by kernel_rfl) (by kernel_rfl) (by kernel_rfl) (by kernel_rfl) (by kernel_rfl) (fun _ _ _ h => h) (by rfl) (v := ?v24Am) ?hy24Am hS8 ?rest24Am
            case hy24Am => intro w0 hSw; have c1 := conv_own hSw.o2; have c2 := conv_own hSw.o4; rw [HTT.out] at c1 c2; obtain ⟨y0, y1, y2, y3, y4, y5, y6, y7, y8, y9, y10, y11, y12, y13, y14, y15, _⟩ := cells16 hSw.bb; go_simp; try with_reducible rfl
            simp only [Act.put, List.setIfInBounds_toArray, List.set_cons_zero, List.set_cons_succ]
            refine late_take (i := 26) (some 119) rfl rfl (by kernel_rfl) (by kernel_rfl) (by kernel_rfl) (by kernel_rfl) (by kernel_rfl) (fun _ _ _ h => h) (by rfl) (v := ?v26Am) ?hy26Am hS8 ?rest26Am
            case hy26Am => intro w0 hSw; have c1 := conv_own hSw.o2; have c2 := conv_own hSw.o4; rw [HTT.out] at c1 c2; obtain ⟨y0, y1, y2, y3, y4, y5, y6, y7, y8, y9, y10, y11, y12, y13, y14, y15, _⟩ := cells16 hSw.bb; go_simp; try with_reducible rfl
            simp only [Act.put, List.setIfInBounds_toArray, List.set_cons_zero, List.set_cons_succ]
            refine late_take (i := 27) (some 120) rfl rfl (by kernel_rfl) (by kernel_rfl) (by kernel_rfl) (by kernel_rfl) (by kernel_rfl) (fun _ _ _ h => h) (by rfl) (v := ?v27Am) ?hy27Am hS8 ?rest27Am
            case hy27Am => intro w0 hSw; have c1 := conv_own hSw.o2; have c2 := conv_own hSw.o4; rw [HTT.out] at c1 c2; obtain ⟨y0, y1, y2, y3, y4, y5, y6, y7, y8, y9, y10, y11, y12, y13, y14, y15, _⟩ := cells16 hSw.bb; go_simp; try with_reducible rfl
            simp only [Act.put, List.setIfInBounds_toArray, List.set_cons_zero, List.set_cons_succ]
            refine wpAnyD_one (i := 25) (by kernel_rfl) rfl (fun K' hK => ?_)
            go_simp
            go_at_call 12
            refine (lenx_any g (s1.told : Int) w8 H8.out.1.r.cells.a3).mono ?_
            rintro e w9 ⟨rfl, hw9⟩
            subst w9
            refine hK _ _ ⟨fun _ => hS8, ?_⟩
            clear hK K'
            refine late_take (i := 28) (some 121) rfl rfl (by kernel_rfl) (by kernel_rfl) (by kernel_rfl) (by kernel_rfl) (by kernel_rfl) (fun _ _ _ h => h) (by rfl) (v := ?v28Am) ?hy28Am hS8 ?rest28Am
            case hy28Am => intro w0 hSw; have c1 := conv_own hSw.o2; have c2 := conv_own hSw.o4; rw [HTT.out] at c1 c2; obtain ⟨y0, y1, y2, y3, y4, y5, y6, y7, y8, y9, y10, y11, y12, y13, y14, y15, _⟩ := cells16 hSw.bb; go_simp; try with_reducible rfl
            simp only [Act.put, List.setIfInBounds_toArray, List.set_cons_zero, List.set_cons_succ]
            refine late_take (i := 29) (some 122) rfl rfl (by kernel_rfl) (by kernel_rfl) (by kernel_rfl) (by kernel_rfl) (by kernel_rfl) (fun _ _ _ h => h) (by rfl) (v := ?v29Am) ?hy29Am hS8 ?rest29Am
            case hy29Am => intro w0 hSw; have c1 := conv_own hSw.o2; have c2 := conv_own hSw.o4; rw [HTT.out] at c1 c2; obtain ⟨y0, y1, y2, y3, y4, y5, y6, y7, y8, y9, y10, y11, y12, y13, y14, y15, _⟩ := cells16 hSw.bb; go_simp; try with_reducible rfl
            simp only [Act.put, List.setIfInBounds_toArray, List.set_cons_zero, List.set_cons_succ]
            refine late_take (i := 30) (some 123) rfl rfl (by kernel_rfl) (by kernel_rfl) (by kernel_rfl) (by kernel_rfl) (by kernel_rfl) (fun _ _ _ h => h) (by rfl) (v := ?v30Am) ?hy30Am hS8 ?rest30Am
            case hy30Am => intro w0 hSw; have c1 := conv_own hSw.o2; have c2 := conv_own hSw.o4; rw [HTT.out] at c1 c2; obtain ⟨y0, y1, y2, y3, y4, y5, y6, y7, y8, y9, y10, y11, y12, y13, y14, y15, _⟩ := cells16 hSw.bb; go_simp; try with_reducible rfl
            simp only [Act.put, List.setIfInBounds_toArray, List.set_cons_zero, List.set_cons_succ]
            refine late_take (i := 31) (some 124) rfl rfl (by kernel_rfl) (by kernel_rfl) (by kernel_rfl) (by kernel_rfl) (by kernel_rfl) (fun _ _ _ h => h) (by rfl) (v := ?v31Am) ?hy31Am hS8 ?rest31Am
            case hy31Am => intro w0 hSw; have c1 := conv_own hSw.o2; have c2 := conv_own hSw.o4; rw [HTT.out] at c1 c2; obtain ⟨y0, y1, y2, y3, y4, y5, y6, y7, y8, y9, y10, y11, y12, y13, y14, y15, _⟩ := cells16 hSw.bb; go_simp; try with_reducible rfl
            simp only [Act.put, List.setIfInBounds_toArray, List.set_cons_zero, List.set_cons_succ]
            refine late_take (i := 33) (some 126) rfl rfl (by kernel_rfl) (by kernel_rfl) (by kernel_rfl) (by kernel_rfl) (by kernel_rfl) (fun _ _ _ h => h) (by rfl) (v := ?v33Am) ?hy33Am hS8 ?rest33Am
            case hy33Am => intro w0 hSw; have c1 := conv_own hSw.o2; have c2 := conv_own hSw.o4; rw [HTT.out] at c1 c2; obtain ⟨y0, y1, y2, y3, y4, y5, y6, y7, y8, y9, y10, y11, y12, y13, y14, y15, _⟩ := cells16 hSw.bb; go_simp; try with_reducible rfl
            simp only [Act.put, List.setIfInBounds_toArray, List.set_cons_zero, List.set_cons_succ]
            refine late_take (i := 34) (some 127) rfl rfl (by kernel_rfl) (by kernel_rfl) (by kernel_rfl) (by kernel_rfl) (by kernel_rfl) (fun _ _ _ h => h) (by rfl) (v := ?v34Am) ?hy34Am hS8 ?rest34Am
            case hy34Am => intro w0 hSw; have c1 := conv_own hSw.o2; have c2 := conv_own hSw.o4; rw [HTT.out] at c1 c2; obtain ⟨y0, y1, y2, y3, y4, y5, y6, y7, y8, y9, y10, y11, y12, y13, y14, y15, _⟩ := cells16 hSw.bb; go_simp; try with_reducible rfl
            simp only [Act.put, List.setIfInBounds_toArray, List.set_cons_zero, List.set_cons_succ]
            refine wpAnyD_one (i := 32) (by kernel_rfl) rfl (fun K' hK => ?_)
            go_simp
            go_at_call 13
            refine (donex_any g s1.done w8 H8.out.1.r.cells.a4).mono ?_
            rintro e w9 ⟨rfl, hw9⟩
            subst w9
            refine hK _ _ ⟨fun _ => hS8, ?_⟩
            clear hK K'
            refine late_take (i := 35) (some 128) rfl rfl (by kernel_rfl) (by kernel_rfl) (by kernel_rfl) (by kernel_rfl) (by kernel_rfl) (fun _ _ _ h => h) (by rfl) (v := ?v35Am) ?hy35Am hS8 ?rest35Am
            case hy35Am => intro w0 hSw; have c1 := conv_own hSw.o2; have c2 := conv_own hSw.o4; rw [HTT.out] at c1 c2; obtain ⟨y0, y1, y2, y3, y4, y5, y6, y7, y8, y9, y10, y11, y12, y13, y14, y15, _⟩ := cells16 hSw.bb; go_simp; try with_reducible rfl
            simp only [Act.put, List.setIfInBounds_toArray, List.set_cons_zero, List.set_cons_succ]
            refine late_take (i := 36) (some 129) rfl rfl (by kernel_rfl) (by kernel_rfl) (by kernel_rfl) (by kernel_rfl) (by kernel_rfl) (fun _ _ _ h => h) (by rfl) (v := ?v36Am) ?hy36Am hS8 ?rest36Am
            case hy36Am => intro w0 hSw; have c1 := conv_own hSw.o2; have c2 := conv_own hSw.o4; rw [HTT.out] at c1 c2; obtain ⟨y0, y1, y2, y3, y4, y5, y6, y7, y8, y9, y10, y11, y12, y13, y14, y15, _⟩ := cells16 hSw.bb; go_simp; try with_reducible rfl
            simp only [Act.put, List.setIfInBounds_toArray, List.set_cons_zero, List.set_cons_succ]
            refine late_done (by kernel_rfl) ?_ _
            refine NoPanic.normal ?_
            have hwi : wrap64 ((i : Int) + 1) = (i : Int) + 1 := by unfold wrap64; omega
            go_wp2
            go_roundg (n - (i + 1) + 1)
            case measure => omega
            case rel => exact ⟨i + 1, s1, ⟨mo1, le1, st1, e1, di1, si1, mr1, li1, by1, tr1, gh1⟩, lp1, ln1, lc1, tp1, tn1, tc1, cp', (by (try rw [hwi]); push_cast; rfl), by omega, rfl, H8.out.1, HR1.out, HI1.out, HT1.out⟩
        · as_aux_lemma =>
            go_simp
            have HU1 := hid (HU0.out.next (below_new W1 (.cells #[.int .i64 0, .int .i64 0, .int .i64 0, .int .i64 0, .bool false, .int .i64 0, .int .i64 0, .int .i64 0, .int .i64 0, .int .i64 0, .int .i64 0, .int .i64 0, .int .i64 0, .slice none 0 0, .int .i64 0, .slice none 0 0] 37 (0, 0))))
            refine hK _ _ ⟨fun _ => HSee.out _ HU1.out, ?_⟩
            clear hK K'
            have HO1 := hid (HO0.out.keep (below_new W1 (.cells #[.int .i64 0, .int .i64 0, .int .i64 0, .int .i64 0, .bool false, .int .i64 0, .int .i64 0, .int .i64 0, .int .i64 0, .int .i64 0, .int .i64 0, .int .i64 0, .int .i64 0, .slice none 0 0, .int .i64 0, .slice none 0 0] 37 (0, 0))))
            have HZ0 := hid (heap_alloc_new W1 (.cells #[.int .i64 0, .int .i64 0, .int .i64 0, .int .i64 0, .bool false, .int .i64 0, .int .i64 0, .int .i64 0, .int .i64 0, .int .i64 0, .int .i64 0, .int .i64 0, .int .i64 0, .slice none 0 0, .int .i64 0, .slice none 0 0] 37 (0, 0)))
            have HG := hid (show w.heap.size < W1.heap.size ∧ W1.heap.size ≠ gB ∧ ¬ gh1 W1.heap.size from ⟨lt_of_heap HU0.out.bx, fun e => Nat.lt_irrefl _ (by have := lt_of_heap HU0.out.bb; rw [← e] at this; exact this), fun h => Nat.lt_irrefl _ (HU0.out.rows.g.gl _ h)⟩)
            have HLt := hid (fun (k : Nat) (e : (Value.slice q2 M d2).ownBlock = some k) => ys_lt (own_low0 HO0.out) e)
            generalize hX0 : W1.alloc (.cells #[.int .i64 0, .int .i64 0, .int .i64 0, .int .i64 0, .bool false, .int .i64 0, .int .i64 0, .int .i64 0, .int .i64 0, .int .i64 0, .int .i64 0, .int .i64 0, .int .i64 0, .slice none 0 0, .int .i64 0, .slice none 0 0] 37 (0, 0)) = X0 at HU1 HO1 HZ0 ⊢
            generalize hg13 : W1.heap.size = g13 at HZ0 HG HLt ⊢
            clear hX0 hg13 hS HU0 HO0
            refine wpAnyD_one (i := 6) (by kernel_rfl) rfl (fun K' hK => ?_)
            go_simp
            go_at_call 11
            refine (HFc.out X0 HU1.out.low HU1.out.rows).mono ?_
            rintro e w4 ⟨lp1, ln1, lc1, tp1, tn1, tc1, q4, d4, rfl, hl1, ht1, hr1, ho1, hb1⟩
            have HL1 := hid hl1
            have HT9 := hid ht1
            have HN0 := hid (show LFN w w4 #[.int .i64 K, .int .i64 N, .int .i64 m, .slice (some ⟨pg, po, none⟩) n c, .bool E] K N m s1 s ⟨dmo, dle, dst, de, ddi, dsi, dmr, dli, dby, dtr, gh1⟩ lp ln lc tp tn tc g gB cp' g13 #[.int .i64 0, .int .i64 0, .int .i64 0, .int .i64 0, .bool false, .int .i64 0, .int .i64 0, .int .i64 0, .int .i64 0, .int .i64 0, .int .i64 0, .int .i64 0, .int .i64 0, .slice none 0 0, .int .i64 0, .slice none 0 0] ⟨mo1, le1, st1, e1, di1, si1, mr1, li1, by1, tr1, gh1⟩ lp1 lc1 tp1 tc1 (.slice q2 M d2) (.slice q4 M d4) X from ⟨HU1.out.next hb1, blk_nextD HZ0.out hb1, HG.out.1, HG.out.2.1, HG.out.2.2, hr1, own_base (HO1.out.keep hb1) (Nat.le_of_lt HZb.out.1), own_base ho1 HU1.out.low.size, fun k e => ⟨fun e2 => by have h5 := HLt.out k e; omega, fun e2 => by have h5 := own_ge HO1.out e; have h6 := HZb.out.2; omega⟩, fun k e => ⟨fun e2 => by have h5 := own_ge ho1 e; have h6 := lt_of_heap HZ0.out; omega, fun e2 => by have h5 := own_ge ho1 e; have h6 := lt_of_heap HU1.out.bb; omega⟩⟩)
            have hS4 := HSee.out _ HN0.out.fs
            refine hK _ _ ⟨fun _ => hS4, ?_⟩
            clear hK K' hl1 ht1 hr1 ho1 hb1 HU1 HO1 HZ0 HG HLt
            refine late_take (i := 7) (some 81) rfl rfl (by kernel_rfl) (by kernel_rfl) (by kernel_rfl) (by kernel_rfl) (by kernel_rfl) (fun _ _ _ h => h) (by rfl) (v := ?v7c) ?hy7c hS4 ?rest7c
            case hy7c => intro w0 hSw; have a3 := hSw.x2; have ap := hSw.pc; obtain ⟨y0, y1, y2, y3, y4, y5, y6, y7, y8, y9, y10, y11, y12, y13, y14, y15, _⟩ := cells16 hSw.bb; go_simp; try with_reducible rfl
            simp only [Act.put, List.setIfInBounds_toArray, List.set_cons_zero, List.set_cons_succ]
            refine late_take (i := 8) (some 89) rfl rfl (by kernel_rfl) (by kernel_rfl) (by kernel_rfl) (by kernel_rfl) (by kernel_rfl) (fun _ _ _ h => h) (by rfl) (v := ?v8c) ?hy8c hS4 ?rest8c
            case hy8c => intro w0 hSw; have a3 := hSw.x2; have ap := hSw.pc; obtain ⟨y0, y1, y2, y3, y4, y5, y6, y7, y8, y9, y10, y11, y12, y13, y14, y15, _⟩ := cells16 hSw.bb; go_simp; try with_reducible rfl
            simp only [Act.put, List.setIfInBounds_toArray, List.set_cons_zero, List.set_cons_succ]
            refine late_take (i := 9) (some 90) rfl rfl (by kernel_rfl) (by kernel_rfl) (by kernel_rfl) (by kernel_rfl) (by kernel_rfl) (fun _ _ _ h => h) (by rfl) (v := ?v9c) ?hy9c hS4 ?rest9c
            case hy9c => intro w0 hSw; have a3 := hSw.x2; have ap := hSw.pc; obtain ⟨y0, y1, y2, y3, y4, y5, y6, y7, y8, y9, y10, y11, y12, y13, y14, y15, _⟩ := cells16 hSw.bb; go_simp; try with_reducible rfl
            simp only [Act.put, List.setIfInBounds_toArray, List.set_cons_zero, List.set_cons_succ]
            refine late_take (i := 10) (some 91) rfl rfl (by kernel_rfl) (by kernel_rfl) (by kernel_rfl) (by kernel_rfl) (by kernel_rfl) (fun _ _ _ h => h) (by rfl) (v := ?v10c) ?hy10c hS4 ?rest10c
            case hy10c => intro w0 hSw; have a3 := hSw.x2; have ap := hSw.pc; obtain ⟨y0, y1, y2, y3, y4, y5, y6, y7, y8, y9, y10, y11, y12, y13, y14, y15, _⟩ := cells16 hSw.bb; go_simp; try with_reducible rfl
            simp only [Act.put, List.setIfInBounds_toArray, List.set_cons_zero, List.set_cons_succ]
            clear hS4
            refine wpAnyD_one (i := 12) (by kernel_rfl) rfl (fun K' hK => ?_)
            rw [if_pos (by rfl)]
            refine wp_store_bd (.tmp 13) (.tmp 89) rfl g13 (by go_simp) K N m (s1.told : Int) s1.done (s1.err : Int) (mo1 : Int) (le1 : Int) (st1 : Int) (e1 : Int) (di1 : Int) (si1 : Int) (mr1 : Int) (by1 : Int) lp1 tp1 ln1 tn1 lc1 tc1 (by go_simp) HN0.out.z ?_
            intro U5 hU5 hO5 _
            have HN5 := hid (HN0.out.store (box_free HN0.out.z) hU5 hO5)
            have hS5 := HSee.out _ HN5.out.fs
            show K' (Act.put _ none _) _
            refine hK _ _ ⟨fun _ => hS5, ?_⟩
            clear hK K' hU5 hO5 HN0
            (try simp only [Act.put])
            refine late_take (i := 13) (some 14) rfl rfl (by kernel_rfl) (by kernel_rfl) (by kernel_rfl) (by kernel_rfl) (by kernel_rfl) (fun _ _ _ h => h) (by rfl) (v := ?v13Bz) ?hy13Bz hS5 ?rest13Bz
            case hy13Bz => intro w0 hSw; have a3 := hSw.x2; have ap := hSw.pc; obtain ⟨y0, y1, y2, y3, y4, y5, y6, y7, y8, y9, y10, y11, y12, y13, y14, y15, _⟩ := cells16 hSw.bb; go_simp; try with_reducible rfl
            simp only [Act.put, List.setIfInBounds_toArray, List.set_cons_zero, List.set_cons_succ]
            refine late_take (i := 14) (some 15) rfl rfl (by kernel_rfl) (by kernel_rfl) (by kernel_rfl) (by kernel_rfl) (by kernel_rfl) (fun _ _ _ h => h) (by rfl) (v := ?v14Bz) ?hy14Bz hS5 ?rest14Bz
            case hy14Bz => intro w0 hSw; have a3 := hSw.x2; have ap := hSw.pc; obtain ⟨y0, y1, y2, y3, y4, y5, y6, y7, y8, y9, y10, y11, y12, y13, y14, y15, _⟩ := cells16 hSw.bb; go_simp; try with_reducible rfl
            simp only [Act.put, List.setIfInBounds_toArray, List.set_cons_zero, List.set_cons_succ]
            refine late_done (by kernel_rfl) ?_ _
            refine NoPanic.normal ?_
            clear hS5
            obtain ⟨n0, n1, n2, n3, n4, n5, n6, n7, n8, n9, n10, n11, n12, n13, n14, n15, _⟩ := cells16 HN5.out.z
            go_wp2_with (refine wpList_store_bd rfl (.tmp 5) (.tmp 92) rfl gB (by go_simp) K N m (s1.told : Int) s1.done (s1.err : Int) (mo1 : Int) (le1 : Int) (st1 : Int) (e1 : Int) (di1 : Int) (si1 : Int) (mr1 : Int) (by1 : Int) lp1 tp1 ln1 tn1 lc1 tc1 (by go_simp) HN5.out.fs.bb ?_; intro U6 hV hO _; have HN6 := hid (HN5.out.put (d1 := ⟨mo1, le1, st1, e1, di1, si1, mr1, li1, by1, tr1, gh1⟩) rfl HL1.out HT9.out hV hO); clear hV hO HN5)
            clear n0 n1 n2 n3 n4 n5 n6 n7 n8 n9 n10 n11 n12 n13 n14 n15
            have H7 := hid (show (LFS w U6.drew #[.int .i64 K, .int .i64 N, .int .i64 m, .slice (some ⟨pg, po, none⟩) n c, .bool E] K N m s1 s1 ⟨mo1, le1, st1, e1, di1, si1, mr1, li1, by1, tr1, gh1⟩ lp1 ln1 lc1 tp1 tn1 tc1 g gB cp') ∧ Own U6.drew w.heap.size (.slice q2 M d2) X ∧ Own U6.drew w.heap.size (.slice q4 M d4) X from ⟨HN6.out.1.drew, HN6.out.2.1.keep ⟨rfl, rfl, rfl, Nat.le_refl _, fun _ _ => rfl⟩, HN6.out.2.2.keep ⟨rfl, rfl, rfl, Nat.le_refl _, fun _ _ => rfl⟩⟩)
            have HNm1 := hid (HNm.out s1.err)
            rw [HV.out] at HNm1
            generalize hW7 : U6.drew = W7 at H7
            refine wp_region_noPanic ?_
            refine any_begin 37 (by kernel_rfl) (by kernel_rfl) ?_
            rw [hW7]
            clear hW7 HN6
            refine late_begin (fun U => RdMF U w.heap.size gB (.cells #[.int .i64 K, .int .i64 N, .int .i64 m, .int .i64 (s1.told : Int), .bool s1.done, .int .i64 (s1.err : Int), .int .i64 (mo1 : Int), .int .i64 (le1 : Int), .int .i64 (st1 : Int), .int .i64 (e1 : Int), .int .i64 (di1 : Int), .int .i64 (si1 : Int), .int .i64 (mr1 : Int), .slice lp1 ln1 lc1, .int .i64 (by1 : Int), .slice tp1 tn1 tc1] 37 (0, 0)) (.slice q2 M d2) (.slice q4 M d4) X) (fun _ => false) (show RdMF W7 w.heap.size gB (.cells #[.int .i64 K, .int .i64 N, .int .i64 m, .int .i64 (s1.told : Int), .bool s1.done, .int .i64 (s1.err : Int), .int .i64 (mo1 : Int), .int .i64 (le1 : Int), .int .i64 (st1 : Int), .int .i64 (e1 : Int), .int .i64 (di1 : Int), .int .i64 (si1 : Int), .int .i64 (mr1 : Int), .slice lp1 ln1 lc1, .int .i64 (by1 : Int), .slice tp1 tn1 tc1] 37 (0, 0)) (.slice q2 M d2) (.slice q4 M d4) X from ⟨H7.out.1.bb, H7.out.2.1, H7.out.2.2⟩) (fun hS => ?_)
            refine late_take (i := 0) (some 93) rfl rfl (by kernel_rfl) (by kernel_rfl) (by kernel_rfl) (by kernel_rfl) (by kernel_rfl) (fun _ _ _ h => h) (by rfl) (v := ?v0Bm) ?hy0Bm hS ?rest0Bm
            case hy0Bm => intro w0 hSw; have c1 := conv_own hSw.o2; have c2 := conv_own hSw.o4; rw [HTT.out] at c1 c2; obtain ⟨y0, y1, y2, y3, y4, y5, y6, y7, y8, y9, y10, y11, y12, y13, y14, y15, _⟩ := cells16 hSw.bb; go_simp; try with_reducible rfl
            simp only [Act.put, List.setIfInBounds_toArray, List.set_cons_zero, List.set_cons_succ]
            refine late_take (i := 1) (some 94) rfl rfl (by kernel_rfl) (by kernel_rfl) (by kernel_rfl) (by kernel_rfl) (by kernel_rfl) (fun _ _ _ h => h) (by rfl) (v := ?v1Bm) ?hy1Bm hS ?rest1Bm
            case hy1Bm => intro w0 hSw; have c1 := conv_own hSw.o2; have c2 := conv_own hSw.o4; rw [HTT.out] at c1 c2; obtain ⟨y0, y1, y2, y3, y4, y5, y6, y7, y8, y9, y10, y11, y12, y13, y14, y15, _⟩ := cells16 hSw.bb; go_simp; try with_reducible rfl
            simp only [Act.put, List.setIfInBounds_toArray, List.set_cons_zero, List.set_cons_succ]
            refine late_take (i := 2) (some 95) rfl rfl (by kernel_rfl) (by kernel_rfl) (by kernel_rfl) (by kernel_rfl) (by kernel_rfl) (fun _ _ _ h => h) (by rfl) (v := ?v2Bm) ?hy2Bm hS ?rest2Bm
            case hy2Bm => intro w0 hSw; have c1 := conv_own hSw.o2; have c2 := conv_own hSw.o4; rw [HTT.out] at c1 c2; obtain ⟨y0, y1, y2, y3, y4, y5, y6, y7, y8, y9, y10, y11, y12, y13, y14, y15, _⟩ := cells16 hSw.bb; go_simp; try with_reducible rfl
            simp only [Act.put, List.setIfInBounds_toArray, List.set_cons_zero, List.set_cons_succ]
            refine late_take (i := 3) (some 96) rfl rfl (by kernel_rfl) (by kernel_rfl) (by kernel_rfl) (by kernel_rfl) (by kernel_rfl) (fun _ _ _ h => h) (by rfl) (v := ?v3Bm) ?hy3Bm hS ?rest3Bm
            case hy3Bm => intro w0 hSw; have c1 := conv_own hSw.o2; have c2 := conv_own hSw.o4; rw [HTT.out] at c1 c2; obtain ⟨y0, y1, y2, y3, y4, y5, y6, y7, y8, y9, y10, y11, y12, y13, y14, y15, _⟩ := cells16 hSw.bb; go_simp; try with_reducible rfl
            simp only [Act.put, List.setIfInBounds_toArray, List.set_cons_zero, List.set_cons_succ]
            refine late_take (i := 4) (some 97) rfl rfl (by kernel_rfl) (by kernel_rfl) (by kernel_rfl) (by kernel_rfl) (by kernel_rfl) (fun _ _ _ h => h) (by rfl) (v := ?v4Bm) ?hy4Bm hS ?rest4Bm
            case hy4Bm => intro w0 hSw; have c1 := conv_own hSw.o2; have c2 := conv_own hSw.o4; rw [HTT.out] at c1 c2; obtain ⟨y0, y1, y2, y3, y4, y5, y6, y7, y8, y9, y10, y11, y12, y13, y14, y15, _⟩ := cells16 hSw.bb; go_simp; try with_reducible rfl
            simp only [Act.put, List.setIfInBounds_toArray, List.set_cons_zero, List.set_cons_succ]
            refine late_take (i := 5) (some 98) rfl rfl (by kernel_rfl) (by kernel_rfl) (by kernel_rfl) (by kernel_rfl) (by kernel_rfl) (fun _ _ _ h => h) (by rfl) (v := ?v5Bm) ?hy5Bm hS ?rest5Bm
            case hy5Bm => intro w0 hSw; have c1 := conv_own hSw.o2; have c2 := conv_own hSw.o4; rw [HTT.out] at c1 c2; obtain ⟨y0, y1, y2, y3, y4, y5, y6, y7, y8, y9, y10, y11, y12, y13, y14, y15, _⟩ := cells16 hSw.bb; go_simp; try with_reducible rfl
            simp only [Act.put, List.setIfInBounds_toArray, List.set_cons_zero, List.set_cons_succ]
            refine late_take (i := 6) (some 99) rfl rfl (by kernel_rfl) (by kernel_rfl) (by kernel_rfl) (by kernel_rfl) (by kernel_rfl) (fun _ _ _ h => h) (by rfl) (v := ?v6Bm) ?hy6Bm hS ?rest6Bm
            case hy6Bm => intro w0 hSw; have c1 := conv_own hSw.o2; have c2 := conv_own hSw.o4; rw [HTT.out] at c1 c2; obtain ⟨y0, y1, y2, y3, y4, y5, y6, y7, y8, y9, y10, y11, y12, y13, y14, y15, _⟩ := cells16 hSw.bb; go_simp; try with_reducible rfl
            simp only [Act.put, List.setIfInBounds_toArray, List.set_cons_zero, List.set_cons_succ]
            refine late_take (i := 7) (some 100) rfl rfl (by kernel_rfl) (by kernel_rfl) (by kernel_rfl) (by kernel_rfl) (by kernel_rfl) (fun _ _ _ h => h) (by rfl) (v := ?v7Bm) ?hy7Bm hS ?rest7Bm
            case hy7Bm => intro w0 hSw; have c1 := conv_own hSw.o2; have c2 := conv_own hSw.o4; rw [HTT.out] at c1 c2; obtain ⟨y0, y1, y2, y3, y4, y5, y6, y7, y8, y9, y10, y11, y12, y13, y14, y15, _⟩ := cells16 hSw.bb; go_simp; try with_reducible rfl
            simp only [Act.put, List.setIfInBounds_toArray, List.set_cons_zero, List.set_cons_succ]
            refine late_take (i := 8) (some 101) rfl rfl (by kernel_rfl) (by kernel_rfl) (by kernel_rfl) (by kernel_rfl) (by kernel_rfl) (fun _ _ _ h => h) (by rfl) (v := ?v8Bm) ?hy8Bm hS ?rest8Bm
            case hy8Bm => intro w0 hSw; have c1 := conv_own hSw.o2; have c2 := conv_own hSw.o4; rw [HTT.out] at c1 c2; obtain ⟨y0, y1, y2, y3, y4, y5, y6, y7, y8, y9, y10, y11, y12, y13, y14, y15, _⟩ := cells16 hSw.bb; go_simp; try with_reducible rfl
            simp only [Act.put, List.setIfInBounds_toArray, List.set_cons_zero, List.set_cons_succ]
            refine late_take (i := 9) (some 102) rfl rfl (by kernel_rfl) (by kernel_rfl) (by kernel_rfl) (by kernel_rfl) (by kernel_rfl) (fun _ _ _ h => h) (by rfl) (v := ?v9Bm) ?hy9Bm hS ?rest9Bm
            case hy9Bm => intro w0 hSw; have c1 := conv_own hSw.o2; have c2 := conv_own hSw.o4; rw [HTT.out] at c1 c2; obtain ⟨y0, y1, y2, y3, y4, y5, y6, y7, y8, y9, y10, y11, y12, y13, y14, y15, _⟩ := cells16 hSw.bb; go_simp; try with_reducible rfl
            simp only [Act.put, List.setIfInBounds_toArray, List.set_cons_zero, List.set_cons_succ]
            refine late_take (i := 10) (some 103) rfl rfl (by kernel_rfl) (by kernel_rfl) (by kernel_rfl) (by kernel_rfl) (by kernel_rfl) (fun _ _ _ h => h) (by rfl) (v := ?v10Bm) ?hy10Bm hS ?rest10Bm
            case hy10Bm => intro w0 hSw; have c1 := conv_own hSw.o2; have c2 := conv_own hSw.o4; rw [HTT.out] at c1 c2; obtain ⟨y0, y1, y2, y3, y4, y5, y6, y7, y8, y9, y10, y11, y12, y13, y14, y15, _⟩ := cells16 hSw.bb; go_simp; try with_reducible rfl
            simp only [Act.put, List.setIfInBounds_toArray, List.set_cons_zero, List.set_cons_succ]
            refine late_take (i := 11) (some 104) rfl rfl (by kernel_rfl) (by kernel_rfl) (by kernel_rfl) (by kernel_rfl) (by kernel_rfl) (fun _ _ _ h => h) (by rfl) (v := ?v11Bm) ?hy11Bm hS ?rest11Bm
            case hy11Bm => intro w0 hSw; have c1 := conv_own hSw.o2; have c2 := conv_own hSw.o4; rw [HTT.out] at c1 c2; obtain ⟨y0, y1, y2, y3, y4, y5, y6, y7, y8, y9, y10, y11, y12, y13, y14, y15, _⟩ := cells16 hSw.bb; go_simp; try with_reducible rfl
            simp only [Act.put, List.setIfInBounds_toArray, List.set_cons_zero, List.set_cons_succ]
            refine late_take (i := 12) (some 105) rfl rfl (by kernel_rfl) (by kernel_rfl) (by kernel_rfl) (by kernel_rfl) (by kernel_rfl) (fun _ _ _ h => h) (by rfl) (v := ?v12Bm) ?hy12Bm hS ?rest12Bm
            case hy12Bm => intro w0 hSw; have c1 := conv_own hSw.o2; have c2 := conv_own hSw.o4; rw [HTT.out] at c1 c2; obtain ⟨y0, y1, y2, y3, y4, y5, y6, y7, y8, y9, y10, y11, y12, y13, y14, y15, _⟩ := cells16 hSw.bb; go_simp; try with_reducible rfl
            simp only [Act.put, List.setIfInBounds_toArray, List.set_cons_zero, List.set_cons_succ]
            refine late_take (i := 13) (some 106) rfl rfl (by kernel_rfl) (by kernel_rfl) (by kernel_rfl) (by kernel_rfl) (by kernel_rfl) (fun _ _ _ h => h) (by rfl) (v := ?v13Bm) ?hy13Bm hS ?rest13Bm
            case hy13Bm => intro w0 hSw; have c1 := conv_own hSw.o2; have c2 := conv_own hSw.o4; rw [HTT.out] at c1 c2; obtain ⟨y0, y1, y2, y3, y4, y5, y6, y7, y8, y9, y10, y11, y12, y13, y14, y15, _⟩ := cells16 hSw.bb; go_simp; try with_reducible rfl
            simp only [Act.put, List.setIfInBounds_toArray, List.set_cons_zero, List.set_cons_succ]
            refine late_take (i := 14) (some 107) rfl rfl (by kernel_rfl) (by kernel_rfl) (by kernel_rfl) (by kernel_rfl) (by kernel_rfl) (fun _ _ _ h => h) (by rfl) (v := ?v14Bm) ?hy14Bm hS ?rest14Bm
            case hy14Bm => intro w0 hSw; have c1 := conv_own hSw.o2; have c2 := conv_own hSw.o4; rw [HTT.out] at c1 c2; obtain ⟨y0, y1, y2, y3, y4, y5, y6, y7, y8, y9, y10, y11, y12, y13, y14, y15, _⟩ := cells16 hSw.bb; go_simp; try with_reducible rfl
            simp only [Act.put, List.setIfInBounds_toArray, List.set_cons_zero, List.set_cons_succ]
            refine late_take (i := 15) (some 108) rfl rfl (by kernel_rfl) (by kernel_rfl) (by kernel_rfl) (by kernel_rfl) (by kernel_rfl) (fun _ _ _ h => h) (by rfl) (v := ?v15Bm) ?hy15Bm hS ?rest15Bm
            case hy15Bm => intro w0 hSw; have c1 := conv_own hSw.o2; have c2 := conv_own hSw.o4; rw [HTT.out] at c1 c2; obtain ⟨y0, y1, y2, y3, y4, y5, y6, y7, y8, y9, y10, y11, y12, y13, y14, y15, _⟩ := cells16 hSw.bb; go_simp; try with_reducible rfl
            simp only [Act.put, List.setIfInBounds_toArray, List.set_cons_zero, List.set_cons_succ]
            refine late_take (i := 16) (some 109) rfl rfl (by kernel_rfl) (by kernel_rfl) (by kernel_rfl) (by kernel_rfl) (by kernel_rfl) (fun _ _ _ h => h) (by rfl) (v := ?v16Bm) ?hy16Bm hS ?rest16Bm
            case hy16Bm => intro w0 hSw; have c1 := conv_own hSw.o2; have c2 := conv_own hSw.o4; rw [HTT.out] at c1 c2; obtain ⟨y0, y1, y2, y3, y4, y5, y6, y7, y8, y9, y10, y11, y12, y13, y14, y15, _⟩ := cells16 hSw.bb; go_simp; try with_reducible rfl
            simp only [Act.put, List.setIfInBounds_toArray, List.set_cons_zero, List.set_cons_succ]
            refine late_take (i := 17) (some 110) rfl rfl (by kernel_rfl) (by kernel_rfl) (by kernel_rfl) (by kernel_rfl) (by kernel_rfl) (fun _ _ _ h => h) (by rfl) (v := ?v17Bm) ?hy17Bm hS ?rest17Bm
            case hy17Bm => intro w0 hSw; have c1 := conv_own hSw.o2; have c2 := conv_own hSw.o4; rw [HTT.out] at c1 c2; obtain ⟨y0, y1, y2, y3, y4, y5, y6, y7, y8, y9, y10, y11, y12, y13, y14, y15, _⟩ := cells16 hSw.bb; go_simp; try with_reducible rfl
            simp only [Act.put, List.setIfInBounds_toArray, List.set_cons_zero, List.set_cons_succ]
            refine late_take (i := 19) (some 112) rfl rfl (by kernel_rfl) (by kernel_rfl) (by kernel_rfl) (by kernel_rfl) (by kernel_rfl) (fun _ _ _ h => h) (by rfl) (v := ?v19Bm) ?hy19Bm hS ?rest19Bm
            case hy19Bm => intro w0 hSw; have c1 := conv_own hSw.o2; have c2 := conv_own hSw.o4; rw [HTT.out] at c1 c2; obtain ⟨y0, y1, y2, y3, y4, y5, y6, y7, y8, y9, y10, y11, y12, y13, y14, y15, _⟩ := cells16 hSw.bb; go_simp; try with_reducible rfl
            simp only [Act.put, List.setIfInBounds_toArray, List.set_cons_zero, List.set_cons_succ]
            refine late_take (i := 20) (some 113) rfl rfl (by kernel_rfl) (by kernel_rfl) (by kernel_rfl) (by kernel_rfl) (by kernel_rfl) (fun _ _ _ h => h) (by rfl) (v := ?v20Bm) ?hy20Bm hS ?rest20Bm
            case hy20Bm => intro w0 hSw; have c1 := conv_own hSw.o2; have c2 := conv_own hSw.o4; rw [HTT.out] at c1 c2; obtain ⟨y0, y1, y2, y3, y4, y5, y6, y7, y8, y9, y10, y11, y12, y13, y14, y15, _⟩ := cells16 hSw.bb; go_simp; try with_reducible rfl
            simp only [Act.put, List.setIfInBounds_toArray, List.set_cons_zero, List.set_cons_succ]
            refine wpAnyD_one (i := 18) (by kernel_rfl) rfl (fun K' hK => ?_)
            go_simp
            go_at_call 8
            refine (HNm1.out _ H7.out.1.low).mono ?_
            rintro e w8 ⟨rfl, hb8⟩
            have H8 := hid (And.intro (H7.out.1.next hb8) (And.intro (H7.out.2.1.keep hb8) (H7.out.2.2.keep hb8)))
            have hS8 : RdMF w8 w.heap.size gB (.cells #[.int .i64 K, .int .i64 N, .int .i64 m, .int .i64 (s1.told : Int), .bool s1.done, .int .i64 (s1.err : Int), .int .i64 (mo1 : Int), .int .i64 (le1 : Int), .int .i64 (st1 : Int), .int .i64 (e1 : Int), .int .i64 (di1 : Int), .int .i64 (si1 : Int), .int .i64 (mr1 : Int), .slice lp1 ln1 lc1, .int .i64 (by1 : Int), .slice tp1 tn1 tc1] 37 (0, 0)) (.slice q2 M d2) (.slice q4 M d4) X := ⟨H8.out.1.bb, H8.out.2.1, H8.out.2.2⟩
            refine hK _ _ ⟨fun _ => hS8, ?_⟩
            clear hK K' hb8 hS H7
            refine late_take (i := 21) (some 114) rfl rfl (by kernel_rfl) (by kernel_rfl) (by kernel_rfl) (by kernel_rfl) (by kernel_rfl) (fun _ _ _ h => h) (by rfl) (v := ?v21Bm) ?hy21Bm hS8 ?rest21Bm
            case hy21Bm => intro w0 hSw; have c1 := conv_own hSw.o2; have c2 := conv_own hSw.o4; rw [HTT.out] at c1 c2; obtain ⟨y0, y1, y2, y3, y4, y5, y6, y7, y8, y9, y10, y11, y12, y13, y14, y15, _⟩ := cells16 hSw.bb; go_simp; try with_reducible rfl
            simp only [Act.put, List.setIfInBounds_toArray, List.set_cons_zero, List.set_cons_succ]
            refine late_take (i := 22) (some 115) rfl rfl (by kernel_rfl) (by kernel_rfl) (by kernel_rfl) (by kernel_rfl) (by kernel_rfl) (fun _ _ _ h => h) (by rfl) (v := ?v22Bm) ?hy22Bm hS8 ?rest22Bm
            case hy22Bm => intro w0 hSw; have c1 := conv_own hSw.o2; have c2 := conv_own hSw.o4; rw [HTT.out] at c1 c2; obtain ⟨y0, y1, y2, y3, y4, y5, y6, y7, y8, y9, y10, y11, y12, y13, y14, y15, _⟩ := cells16 hSw.bb; go_simp; try with_reducible rfl
            simp only [Act.put, List.setIfInBounds_toArray, List.set_cons_zero, List.set_cons_succ]
            refine late_take (i := 23) (some 116) rfl rfl (by kernel_rfl) (by kernel_rfl) (by kernel_rfl) (by kernel_rfl) (by kernel_rfl) (fun _ _ _ h => h) (by rfl) (v := ?v23Bm) ?hy23Bm hS8 ?rest23Bm
            case hy23Bm => intro w0 hSw; have c1 := conv_own hSw.o2; have c2 := conv_own hSw.o4; rw [HTT.out] at c1 c2; obtain ⟨y0, y1, y2, y3, y4, y5, y6, y7, y8, y9, y10, y11, y12, y13, y14, y15, _⟩ := cells16 hSw.bb; go_simp; try with_reducible rfl
            simp only [Act.put, List.setIfInBounds_toArray, List.set_cons_zero, List.set_cons_succ]
            refine late_take (i := 24) (some 117) rfl rfl (by kernel_rfl) (by kernel_rfl) (by kernel_rfl) (by kernel_rfl) (by kernel_rfl) (fun _ _ _ h => h) (by rfl) (v := ?v24Bm) ?hy24Bm hS8 ?rest24Bm
            case hy24Bm => intro w0 hSw; have c1 := conv_own hSw.o2; have c2 := conv_own hSw.o4; rw [HTT.out] at c1 c2; obtain ⟨y0, y1, y2, y3, y4, y5, y6, y7, y8, y9, y10, y11, y12, y13, y14, y15, _⟩ := cells16 hSw.bb; go_simp; try with_reducible rfl
            simp only [Act.put, List.setIfInBounds_toArray, List.set_cons_zero, List.set_cons_succ]
            refine late_take (i := 26) (some 119) rfl rfl (by kernel_rfl) (by kernel_rfl) (by kernel_rfl) (by kernel_rfl) (by kernel_rfl) (fun _ _ _ h => h) (by rfl) (v := ?v26Bm) ?hy26Bm hS8 ?rest26Bm
            case hy26Bm => intro w0 hSw; have c1 := conv_own hSw.o2; have c2 := conv_own hSw.o4; rw [HTT.out] at c1 c2; obtain ⟨y0, y1, y2, y3, y4, y5, y6, y7, y8, y9, y10, y11, y12, y13, y14, y15, _⟩ := cells16 hSw.bb; go_simp; try with_reducible rfl
            simp only [Act.put, List.setIfInBounds_toArray, List.set_cons_zero, List.set_cons_succ]
            refine late_take (i := 27) (some 120) rfl rfl (by kernel_rfl) (by kernel_rfl) (by kernel_rfl) (by kernel_rfl) (by kernel_rfl) (fun _ _ _ h => h) (by rfl) (v := ?v27Bm) ?hy27Bm hS8 ?rest27Bm
            case hy27Bm => intro w0 hSw; have c1 := conv_own hSw.o2; have c2 := conv_own hSw.o4; rw [HTT.out] at c1 c2; obtain ⟨y0, y1, y2, y3, y4, y5, y6, y7, y8, y9, y10, y11, y12, y13, y14, y15, _⟩ := cells16 hSw.bb; go_simp; try with_reducible rfl
            simp only [Act.put, List.setIfInBounds_toArray, List.set_cons_zero, List.set_cons_succ]
            refine wpAnyD_one (i := 25) (by kernel_rfl) rfl (fun K' hK => ?_)
            go_simp
            go_at_call 12
            refine (lenx_any g (s1.told : Int) w8 H8.out.1.r.cells.a3).mono ?_
            rintro e w9 ⟨rfl, hw9⟩
            subst w9
            refine hK _ _ ⟨fun _ => hS8, ?_⟩
            clear hK K'
            refine late_take (i := 28) (some 121) rfl rfl (by kernel_rfl) (by kernel_rfl) (by kernel_rfl) (by kernel_rfl) (by kernel_rfl) (fun _ _ _ h => h) (by rfl) (v := ?v28Bm) ?hy28Bm hS8 ?rest28Bm
            case hy28Bm => intro w0 hSw; have c1 := conv_own hSw.o2; have c2 := conv_own hSw.o4; rw [HTT.out] at c1 c2; obtain ⟨y0, y1, y2, y3, y4, y5, y6, y7, y8, y9, y10, y11, y12, y13, y14, y15, _⟩ := cells16 hSw.bb; go_simp; try with_reducible rfl
            simp only [Act.put, List.setIfInBounds_toArray, List.set_cons_zero, List.set_cons_succ]
            refine late_take (i := 29) (some 122) rfl rfl (by kernel_rfl) (by kernel_rfl) (by kernel_rfl) (by kernel_rfl) (by kernel_rfl) (fun _ _ _ h => h) (by rfl) (v := ?v29Bm) ?hy29Bm hS8 ?rest29Bm
            case hy29Bm => intro w0 hSw; have c1 := conv_own hSw.o2; have c2 := conv_own hSw.o4; rw [HTT.out] at c1 c2; obtain ⟨y0, y1, y2, y3, y4, y5, y6, y7, y8, y9, y10, y11, y12, y13, y14, y15, _⟩ := cells16 hSw.bb; go_simp; try with_reducible rfl
            simp only [Act.put, List.setIfInBounds_toArray, List.set_cons_zero, List.set_cons_succ]
            refine late_take (i := 30) (some 123) rfl rfl (by kernel_rfl) (by kernel_rfl) (by kernel_rfl) (by kernel_rfl) (by kernel_rfl) (fun _ _ _ h => h) (by rfl) (v := ?v30Bm) ?hy30Bm hS8 ?rest30Bm
            case hy30Bm => intro w0 hSw; have c1 := conv_own hSw.o2; have c2 := conv_own hSw.o4; rw [HTT.out] at c1 c2; obtain ⟨y0, y1, y2, y3, y4, y5, y6, y7, y8, y9, y10, y11, y12, y13, y14, y15, _⟩ := cells16 hSw.bb; go_simp; try with_reducible rfl
            simp only [Act.put, List.setIfInBounds_toArray, List.set_cons_zero, List.set_cons_succ]
            refine late_take (i := 31) (some 124) rfl rfl (by kernel_rfl) (by kernel_rfl) (by kernel_rfl) (by kernel_rfl) (by kernel_rfl) (fun _ _ _ h => h) (by rfl) (v := ?v31Bm) ?hy31Bm hS8 ?rest31Bm
            case hy31Bm => intro w0 hSw; have c1 := conv_own hSw.o2; have c2 := conv_own hSw.o4; rw [HTT.out] at c1 c2; obtain ⟨y0, y1, y2, y3, y4, y5, y6, y7, y8, y9, y10, y11, y12, y13, y14, y15, _⟩ := cells16 hSw.bb; go_simp; try with_reducible rfl
            simp only [Act.put, List.setIfInBounds_toArray, List.set_cons_zero, List.set_cons_succ]
            refine late_take (i := 33) (some 126) rfl rfl (by kernel_rfl) (by kernel_rfl) (by kernel_rfl) (by kernel_rfl) (by kernel_rfl) (fun _ _ _ h => h) (by rfl) (v := ?v33Bm) ?hy33Bm hS8 ?rest33Bm
            case hy33Bm => intro w0 hSw; have c1 := conv_own hSw.o2; have c2 := conv_own hSw.o4; rw [HTT.out] at c1 c2; obtain ⟨y0, y1, y2, y3, y4, y5, y6, y7, y8, y9, y10, y11, y12, y13, y14, y15, _⟩ := cells16 hSw.bb; go_simp; try with_reducible rfl
            simp only [Act.put, List.setIfInBounds_toArray, List.set_cons_zero, List.set_cons_succ]
            refine late_take (i := 34) (some 127) rfl rfl (by kernel_rfl) (by kernel_rfl) (by kernel_rfl) (by kernel_rfl) (by kernel_rfl) (fun _ _ _ h => h) (by rfl) (v := ?v34Bm) ?hy34Bm hS8 ?rest34Bm
            case hy34Bm => intro w0 hSw; have c1 := conv_own hSw.o2; have c2 := conv_own hSw.o4; rw [HTT.out] at c1 c2; obtain ⟨y0, y1, y2, y3, y4, y5, y6, y7, y8, y9, y10, y11, y12, y13, y14, y15, _⟩ := cells16 hSw.bb; go_simp; try with_reducible rfl
            simp only [Act.put, List.setIfInBounds_toArray, List.set_cons_zero, List.set_cons_succ]
            refine wpAnyD_one (i := 32) (by kernel_rfl) rfl (fun K' hK => ?_)
            go_simp
            go_at_call 13
            refine (donex_any g s1.done w8 H8.out.1.r.cells.a4).mono ?_
            rintro e w9 ⟨rfl, hw9⟩
            subst w9
            refine hK _ _ ⟨fun _ => hS8, ?_⟩
            clear hK K'
            refine late_take (i := 35) (some 128) rfl rfl (by kernel_rfl) (by kernel_rfl) (by kernel_rfl) (by kernel_rfl) (by kernel_rfl) (fun _ _ _ h => h) (by rfl) (v := ?v35Bm) ?hy35Bm hS8 ?rest35Bm
            case hy35Bm => intro w0 hSw; have c1 := conv_own hSw.o2; have c2 := conv_own hSw.o4; rw [HTT.out] at c1 c2; obtain ⟨y0, y1, y2, y3, y4, y5, y6, y7, y8, y9, y10, y11, y12, y13, y14, y15, _⟩ := cells16 hSw.bb; go_simp; try with_reducible rfl
            simp only [Act.put, List.setIfInBounds_toArray, List.set_cons_zero, List.set_cons_succ]
            refine late_take (i := 36) (some 129) rfl rfl (by kernel_rfl) (by kernel_rfl) (by kernel_rfl) (by kernel_rfl) (by kernel_rfl) (fun _ _ _ h => h) (by rfl) (v := ?v36Bm) ?hy36Bm hS8 ?rest36Bm
            case hy36Bm => intro w0 hSw; have c1 := conv_own hSw.o2; have c2 := conv_own hSw.o4; rw [HTT.out] at c1 c2; obtain ⟨y0, y1, y2, y3, y4, y5, y6, y7, y8, y9, y10, y11, y12, y13, y14, y15, _⟩ := cells16 hSw.bb; go_simp; try with_reducible rfl
            simp only [Act.put, List.setIfInBounds_toArray, List.set_cons_zero, List.set_cons_succ]
            refine late_done (by kernel_rfl) ?_ _
            refine NoPanic.normal ?_
            have hwi : wrap64 ((i : Int) + 1) = (i : Int) + 1 := by unfold wrap64; omega
            go_wp2
            go_roundg (n - (i + 1) + 1)
            case measure => omega
            case rel => exact ⟨i + 1, s1, ⟨mo1, le1, st1, e1, di1, si1, mr1, li1, by1, tr1, gh1⟩, lp1, ln1, lc1, tp1, tn1, tc1, cp', (by (try rw [hwi]); push_cast; rfl), by omega, rfl, H8.out.1, HR1.out, HI1.out, HT1.out⟩
      · have h60I : ¬ (i : Int) < 60 := by omega
        obtain ⟨dmo, dle, dst, de, ddi, dsi, dmr, dli, dby, dtr, gh1⟩ := d
        clear HN HP
        cases E
        · as_aux_lemma =>
            clear HNm
            go_wp2
            clear b0 b1 b2 b3 b4
            have HU := hid (show LFS w wr.drew #[.int .i64 K, .int .i64 N, .int .i64 m, .slice p n c, .bool false] K N m s s ⟨dmo, dle, dst, de, ddi, dsi, dmr, dli, dby, dtr, gh1⟩ lp ln lc tp tn tc g gB cp from HY.out.drew)
            generalize hW20 : wr.drew = W20 at HU
            obtain ⟨tn0, htn0⟩ : ∃ k, (trX s).length = k := ⟨_, rfl⟩
            have HTn := hid htn0
            have HT64 := hid (show tn0 ≤ 64 from by rw [← htn0]; exact trz_len HI.out)
            clear htn0
            refine wp_region_noPanic ?_
            refine any_begin 16 (by kernel_rfl) (by kernel_rfl) ?_
            rw [hW20]
            clear hW20 HY
            refine late_begin (fun U => RdEF U gB (.cells #[.int .i64 K, .int .i64 N, .int .i64 m, .int .i64 (s.told : Int), .bool s.done, .int .i64 (s.err : Int), .int .i64 (dmo : Int), .int .i64 (dle : Int), .int .i64 (dst : Int), .int .i64 (de : Int), .int .i64 (ddi : Int), .int .i64 (dsi : Int), .int .i64 (dmr : Int), .slice lp ln lc, .int .i64 (dby : Int), .slice tp tn tc] 37 (0, 0))) (fun _ => false) (show RdEF W20 gB (.cells #[.int .i64 K, .int .i64 N, .int .i64 m, .int .i64 (s.told : Int), .bool s.done, .int .i64 (s.err : Int), .int .i64 (dmo : Int), .int .i64 (dle : Int), .int .i64 (dst : Int), .int .i64 (de : Int), .int .i64 (ddi : Int), .int .i64 (dsi : Int), .int .i64 (dmr : Int), .slice lp ln lc, .int .i64 (dby : Int), .slice tp tn tc] 37 (0, 0)) from ⟨HU.out.bb⟩) (fun hS => ?_)
            refine late_take (i := 0) (some 151) rfl rfl (by kernel_rfl) (by kernel_rfl) (by kernel_rfl) (by kernel_rfl) (by kernel_rfl) (fun _ _ _ h => h) (by rfl) (v := ?v0ufq) ?hy0ufq hS ?rest0ufq
            case hy0ufq => intro w0 hSw; obtain ⟨y0, y1, y2, y3, y4, y5, y6, y7, y8, y9, y10, y11, y12, y13, y14, y15, _⟩ := cells16 hSw.bb; go_simp; try with_reducible rfl
            simp only [Act.put, List.setIfInBounds_toArray, List.set_cons_zero, List.set_cons_succ]
            refine late_take (i := 2) (some 153) rfl rfl (by kernel_rfl) (by kernel_rfl) (by kernel_rfl) (by kernel_rfl) (by kernel_rfl) (fun _ _ _ h => h) (by rfl) (v := ?v2ufq) ?hy2ufq hS ?rest2ufq
            case hy2ufq => intro w0 hSw; obtain ⟨y0, y1, y2, y3, y4, y5, y6, y7, y8, y9, y10, y11, y12, y13, y14, y15, _⟩ := cells16 hSw.bb; go_simp; try with_reducible rfl
            simp only [Act.put, List.setIfInBounds_toArray, List.set_cons_zero, List.set_cons_succ]
            refine late_take (i := 3) (some 154) rfl rfl (by kernel_rfl) (by kernel_rfl) (by kernel_rfl) (by kernel_rfl) (by kernel_rfl) (fun _ _ _ h => h) (by rfl) (v := ?v3ufq) ?hy3ufq hS ?rest3ufq
            case hy3ufq => intro w0 hSw; obtain ⟨y0, y1, y2, y3, y4, y5, y6, y7, y8, y9, y10, y11, y12, y13, y14, y15, _⟩ := cells16 hSw.bb; go_simp; try with_reducible rfl
            simp only [Act.put, List.setIfInBounds_toArray, List.set_cons_zero, List.set_cons_succ]
            refine wpAnyD_one (i := 1) (by kernel_rfl) rfl (fun K' hK => ?_)
            go_simp
            go_at_call 13
            refine (donex_any g s.done W20 HU.out.r.cells.a4).mono ?_
            rintro e w9 ⟨rfl, hw9⟩
            subst w9
            refine hK _ _ ⟨fun _ => hS, ?_⟩
            clear hK K'
            refine late_take (i := 4) (some 155) rfl rfl (by kernel_rfl) (by kernel_rfl) (by kernel_rfl) (by kernel_rfl) (by kernel_rfl) (fun _ _ _ h => h) (by rfl) (v := .bool true) ?hy4ufq hS ?rest4ufq
            case hy4ufq => intro w0 hSw; obtain ⟨y0, y1, y2, y3, y4, y5, y6, y7, y8, y9, y10, y11, y12, y13, y14, y15, _⟩ := cells16 hSw.bb; go_simp; try with_reducible rfl
            simp only [Act.put, List.setIfInBounds_toArray, List.set_cons_zero, List.set_cons_succ]
            refine late_take (i := 5) (some 156) rfl rfl (by kernel_rfl) (by kernel_rfl) (by kernel_rfl) (by kernel_rfl) (by kernel_rfl) (fun _ _ _ h => h) (by rfl) (v := ?v5ufq) ?hy5ufq hS ?rest5ufq
            case hy5ufq => intro w0 hSw; obtain ⟨y0, y1, y2, y3, y4, y5, y6, y7, y8, y9, y10, y11, y12, y13, y14, y15, _⟩ := cells16 hSw.bb; go_simp; try with_reducible rfl
            simp only [Act.put, List.setIfInBounds_toArray, List.set_cons_zero, List.set_cons_succ]
            refine late_take (i := 6) (some 157) rfl rfl (by kernel_rfl) (by kernel_rfl) (by kernel_rfl) (by kernel_rfl) (by kernel_rfl) (fun _ _ _ h => h) (by rfl) (v := ?v6ufq) ?hy6ufq hS ?rest6ufq
            case hy6ufq => intro w0 hSw; obtain ⟨y0, y1, y2, y3, y4, y5, y6, y7, y8, y9, y10, y11, y12, y13, y14, y15, _⟩ := cells16 hSw.bb; go_simp; try with_reducible rfl
            simp only [Act.put, List.setIfInBounds_toArray, List.set_cons_zero, List.set_cons_succ]
            refine late_take (i := 8) (some 159) rfl rfl (by kernel_rfl) (by kernel_rfl) (by kernel_rfl) (by kernel_rfl) (by kernel_rfl) (fun _ _ _ h => h) (by rfl) (v := .agg #[.int .i64 K, .int .i64 N, .int .i64 m, .int .i64 (s.told : Int), .bool s.done, .int .i64 (s.err : Int), .int .i64 (dmo : Int), .int .i64 (dle : Int), .int .i64 (dst : Int), .int .i64 (de : Int), .int .i64 (ddi : Int), .int .i64 (dsi : Int), .int .i64 (dmr : Int), .slice lp ln lc, .int .i64 (dby : Int), .slice tp tn tc]) ?hy8ufq hS ?rest8ufq
            case hy8ufq => intro w0 hSw; obtain ⟨y0, y1, y2, y3, y4, y5, y6, y7, y8, y9, y10, y11, y12, y13, y14, y15, _⟩ := cells16 hSw.bb; go_simp; try with_reducible rfl
            simp only [Act.put, List.setIfInBounds_toArray, List.set_cons_zero, List.set_cons_succ]
            refine wpAnyD_one (i := 7) (by kernel_rfl) rfl (fun K' hK => ?_)
            go_simp
            go_at_call 17
            refine (trz_as HU.out.r HI.out HTn.out).mono ?_
            rintro e w21 ⟨q21, d21, rfl, ho, hb⟩
            have HV := hid (show LFS w w21 #[.int .i64 K, .int .i64 N, .int .i64 m, .slice p n c, .bool false] K N m s s ⟨dmo, dle, dst, de, ddi, dsi, dmr, dli, dby, dtr, gh1⟩ lp ln lc tp tn tc g gB cp from HU.out.next hb)
            have HFA := hid (OwnF.fat ho)
            have hS2 : RdEF w21 gB (.cells #[.int .i64 K, .int .i64 N, .int .i64 m, .int .i64 (s.told : Int), .bool s.done, .int .i64 (s.err : Int), .int .i64 (dmo : Int), .int .i64 (dle : Int), .int .i64 (dst : Int), .int .i64 (de : Int), .int .i64 (ddi : Int), .int .i64 (dsi : Int), .int .i64 (dmr : Int), .slice lp ln lc, .int .i64 (dby : Int), .slice tp tn tc] 37 (0, 0)) := ⟨HV.out.bb⟩
            refine hK _ _ ⟨fun _ => hS2, ?_⟩
            clear hK K' ho hb HU hS
            refine wpAnyD_one (i := 9) (by kernel_rfl) rfl (fun K' hK => ?_)
            go_simp
            go_at_call 18
            refine (dtr_any HR.out lp tp ln lc tn tc HV.out.ht w21 HV.out.rows).mono ?_
            rintro e w22 ⟨q22, n22, d22, rfl, hn22, hf22, hb⟩
            rw [HTn.out] at hn22
            subst hn22
            have HX2 := hid (show LFS w w22 #[.int .i64 K, .int .i64 N, .int .i64 m, .slice p n c, .bool false] K N m s s ⟨dmo, dle, dst, de, ddi, dsi, dmr, dli, dby, dtr, gh1⟩ lp ln lc tp tn tc g gB cp from HV.out.next hb)
            have HFB := hid (HFA.out.next hb)
            have HFC := hid hf22
            have hS3 : RdEF w22 gB (.cells #[.int .i64 K, .int .i64 N, .int .i64 m, .int .i64 (s.told : Int), .bool s.done, .int .i64 (s.err : Int), .int .i64 (dmo : Int), .int .i64 (dle : Int), .int .i64 (dst : Int), .int .i64 (de : Int), .int .i64 (ddi : Int), .int .i64 (dsi : Int), .int .i64 (dmr : Int), .slice lp ln lc, .int .i64 (dby : Int), .slice tp tn tc] 37 (0, 0)) := ⟨HX2.out.bb⟩
            refine hK _ _ ⟨fun _ => hS3, ?_⟩
            clear hK K' hf22 hb HV hS2 HFA
            refine wpAnyD_one (i := 10) (by kernel_rfl) rfl (fun K' hK => ?_)
            go_simp
            go_at_call 16
            refine (bfields_same (trX s) q21 q22 tn0 d21 d22 HTn.out w22 HFB.out HFC.out (Nat.le_trans HT64.out (by decide))).mono ?_
            rintro e w23 ⟨rfl, hb⟩
            have HX3 := hid (show LFS w w23 #[.int .i64 K, .int .i64 N, .int .i64 m, .slice p n c, .bool false] K N m s s ⟨dmo, dle, dst, de, ddi, dsi, dmr, dli, dby, dtr, gh1⟩ lp ln lc tp tn tc g gB cp from HX2.out.next hb)
            have hS4 : RdEF w23 gB (.cells #[.int .i64 K, .int .i64 N, .int .i64 m, .int .i64 (s.told : Int), .bool s.done, .int .i64 (s.err : Int), .int .i64 (dmo : Int), .int .i64 (dle : Int), .int .i64 (dst : Int), .int .i64 (de : Int), .int .i64 (ddi : Int), .int .i64 (dsi : Int), .int .i64 (dmr : Int), .slice lp ln lc, .int .i64 (dby : Int), .slice tp tn tc] 37 (0, 0)) := ⟨HX3.out.bb⟩
            refine hK _ _ ⟨fun _ => hS4, ?_⟩
            clear hK K' hb HX2 hS3 HFB HFC
            refine late_take (i := 11) (some 162) rfl rfl (by kernel_rfl) (by kernel_rfl) (by kernel_rfl) (by kernel_rfl) (by kernel_rfl) (fun _ _ _ h => h) (by rfl) (v := ?v11ufq) ?hy11ufq hS4 ?rest11ufq
            case hy11ufq => intro w0 hSw; obtain ⟨y0, y1, y2, y3, y4, y5, y6, y7, y8, y9, y10, y11, y12, y13, y14, y15, _⟩ := cells16 hSw.bb; go_simp; try with_reducible rfl
            simp only [Act.put, List.setIfInBounds_toArray, List.set_cons_zero, List.set_cons_succ]
            refine late_take (i := 12) (some 163) rfl rfl (by kernel_rfl) (by kernel_rfl) (by kernel_rfl) (by kernel_rfl) (by kernel_rfl) (fun _ _ _ h => h) (by rfl) (v := ?v12ufq) ?hy12ufq hS4 ?rest12ufq
            case hy12ufq => intro w0 hSw; obtain ⟨y0, y1, y2, y3, y4, y5, y6, y7, y8, y9, y10, y11, y12, y13, y14, y15, _⟩ := cells16 hSw.bb; go_simp; try with_reducible rfl
            simp only [Act.put, List.setIfInBounds_toArray, List.set_cons_zero, List.set_cons_succ]
            refine wpAnyD_one (i := 13) (by kernel_rfl) rfl (fun K' hK => ?_)
            go_simp
            go_at_call 9
            refine (HSu.out w23 HX3.out.low).mono ?_
            rintro e w24 ⟨rfl, hb⟩
            have HX4 := hid (show LFS w w24 #[.int .i64 K, .int .i64 N, .int .i64 m, .slice p n c, .bool false] K N m s s ⟨dmo, dle, dst, de, ddi, dsi, dmr, dli, dby, dtr, gh1⟩ lp ln lc tp tn tc g gB cp from HX3.out.next hb)
            have hS5 : RdEF w24 gB (.cells #[.int .i64 K, .int .i64 N, .int .i64 m, .int .i64 (s.told : Int), .bool s.done, .int .i64 (s.err : Int), .int .i64 (dmo : Int), .int .i64 (dle : Int), .int .i64 (dst : Int), .int .i64 (de : Int), .int .i64 (ddi : Int), .int .i64 (dsi : Int), .int .i64 (dmr : Int), .slice lp ln lc, .int .i64 (dby : Int), .slice tp tn tc] 37 (0, 0)) := ⟨HX4.out.bb⟩
            refine hK _ _ ⟨fun _ => hS5, ?_⟩
            clear hK K' hb HX3 hS4
            refine late_take (i := 14) (some 165) rfl rfl (by kernel_rfl) (by kernel_rfl) (by kernel_rfl) (by kernel_rfl) (by kernel_rfl) (fun _ _ _ h => h) (by rfl) (v := ?v14ufq) ?hy14ufq hS5 ?rest14ufq
            case hy14ufq => intro w0 hSw; obtain ⟨y0, y1, y2, y3, y4, y5, y6, y7, y8, y9, y10, y11, y12, y13, y14, y15, _⟩ := cells16 hSw.bb; go_simp; try with_reducible rfl
            simp only [Act.put, List.setIfInBounds_toArray, List.set_cons_zero, List.set_cons_succ]
            refine late_take (i := 15) (some 2) rfl rfl (by kernel_rfl) (by kernel_rfl) (by kernel_rfl) (by kernel_rfl) (by kernel_rfl) (fun _ _ _ h => h) (by rfl) (v := ?v15ufq) ?hy15ufq hS5 ?rest15ufq
            case hy15ufq => intro w0 hSw; obtain ⟨y0, y1, y2, y3, y4, y5, y6, y7, y8, y9, y10, y11, y12, y13, y14, y15, _⟩ := cells16 hSw.bb; go_simp; try with_reducible rfl
            simp only [Act.put, List.setIfInBounds_toArray, List.set_cons_zero, List.set_cons_succ]
            refine late_done (by kernel_rfl) ?_ _
            refine NoPanic.normal ?_
            clear hS5
            go_wp2
            go_ret
            exact ⟨rfl, HX4.out.low⟩
        · as_aux_lemma =>
            obtain ⟨s9, hs9⟩ : ∃ s9, shutX s = s9 := ⟨_, rfl⟩
            obtain ⟨V, hV⟩ : ∃ V, errOf s9.err = V := ⟨_, rfl⟩
            have HI9 := hid (show InvX s9 from by rw [← hs9]; exact inv_shut HI.out)
            have HRG := hid (fun (G : Nat → Prop) => show RelB K N m s9 ⟨dmo, dle, dst, de, ddi, dsi, dmr, dli, dby, dtr, G⟩ from by rw [← hs9]; exact rel_shutB (relB_gh HR.out G))
            have HSh := hid (show shutX s9 = s9 from by rw [← hs9]; exact shut_over (over_shut s))
            have HE1 := hid (show Calls Tryz.prog 14 #[.pointer (some ⟨g, 0, none⟩)] wr fun e w' => e = .returned V ∧ TurnX gh1 wr w' g s9 (fun k => gh1 k ∧ k < wr.heap.size) cp from by
              have h := endz_as (E := V) HY.out.r (by rw [hs9]; exact hV)
              rw [hs9] at h
              exact h)
            have HE2 := hid (fun (W : World) (G : Nat → Prop) (cq : Option Addr) (h : BdAt G W g s9 cq) => show Calls Tryz.prog 14 #[.pointer (some ⟨g, 0, none⟩)] W fun e w' => e = .returned V ∧ TurnX G W w' g s9 (fun k => G k ∧ k < W.heap.size) cq from by
              have h5 := endz_as (E := V) h (by rw [HSh.out]; exact hV)
              rw [HSh.out] at h5
              exact h5)
            have HDe := hid (fun (W : World) (G : Nat → Prop) (hA : DkAt W ⟨dmo, dle, dst, de, ddi, dsi, dmr, dli, dby, dtr, G⟩ lp lc tp tc) => dend_any (relB_gh HR.out G) lp tp ln lc tn tc W hA)
            unfold DEndB bdV at HDe
            rw [hs9] at HDe
            have HNm1 := hid (HNm.out s9.err)
            rw [hV] at HNm1
            clear hs9 hV HNm HI HR HSh
            dsimp only at HDe
            go_wp2_with (first | (go_at_call 14; (with_reducible refine HE1.out.mono ?_); rintro e w1 ⟨rfl, ht⟩; have H1 := hid (HY.out.turn ht); clear ht HY HE1 b0 b1 b2 b3 b4; obtain ⟨G, hG⟩ : ∃ G : Nat → Prop, (fun k => gh1 k ∧ k < wr.heap.size) = G := ⟨_, rfl⟩; rw [hG] at H1; clear hG; obtain ⟨y0, y1, y2, y3, y4, y5, y6, y7, y8, y9, y10, y11, y12, y13, y14, y15, _⟩ := cells16 (show w1.heap[gB]? = some (.cells #[.int .i64 K, .int .i64 N, .int .i64 m, .int .i64 (s.told : Int), .bool s.done, .int .i64 (s.err : Int), .int .i64 (dmo : Int), .int .i64 (dle : Int), .int .i64 (dst : Int), .int .i64 (de : Int), .int .i64 (ddi : Int), .int .i64 (dsi : Int), .int .i64 (dmr : Int), .slice lp ln lc, .int .i64 (dby : Int), .slice tp tn tc] 37 (0, 0)) from H1.out.bb)) | (go_at_call 15; (with_reducible refine (HDe.out _ G H1.out.rows).mono ?_); rintro e w2 ⟨rfl, hr2, hb2⟩; have H2 := hid (show LFS w (w2.alloc (.cells #[.int .i64 K, .int .i64 N, .int .i64 m, .int .i64 (s9.told : Int), .bool s9.done, .int .i64 (s9.err : Int), .int .i64 (dmo : Int), .int .i64 (dle : Int), .int .i64 (dst : Int), .int .i64 (de : Int), .int .i64 (ddi : Int), .int .i64 (dsi : Int), .int .i64 (dmr : Int), .slice lp ln lc, .int .i64 (dby : Int), .slice tp tn tc] 37 (0, 0))) #[.int .i64 K, .int .i64 N, .int .i64 m, .slice p n c, .bool true] K N m s9 s ⟨dmo, dle, dst, de, ddi, dsi, dmr, dli, dby, dtr, G⟩ lp ln lc tp tn tc g gB cp from (H1.out.next hb2).next (below_new w2 _)); clear hr2 hb2 H1 HDe y0 y1 y2 y3 y4 y5 y6 y7 y8 y9 y10 y11 y12 y13 y14 y15) | (refine wpList_store_bd rfl (.tmp 5) (.tmp 139) rfl gB (by go_simp) K N m (s9.told : Int) s9.done (s9.err : Int) (dmo : Int) (dle : Int) (dst : Int) (de : Int) (ddi : Int) (dsi : Int) (dmr : Int) (dby : Int) lp tp ln tn lc tc (by go_simp) H2.out.bb ?_; intro U6 hV hO _; have H6 := hid (show LFS w U6 #[.int .i64 K, .int .i64 N, .int .i64 m, .slice p n c, .bool true] K N m s9 s9 ⟨dmo, dle, dst, de, ddi, dsi, dmr, dli, dby, dtr, G⟩ lp ln lc tp tn tc g gB cp from H2.out.put H2.out.rows rfl H2.out.hl H2.out.ht hV hO); clear hV hO H2) | (go_at_call 8; (with_reducible refine (HNm1.out _ H6.out.low).mono ?_); rintro e w7 ⟨rfl, hb⟩; have H7 := hid (show LFS w w7 #[.int .i64 K, .int .i64 N, .int .i64 m, .slice p n c, .bool true] K N m s9 s9 ⟨dmo, dle, dst, de, ddi, dsi, dmr, dli, dby, dtr, G⟩ lp ln lc tp tn tc g gB cp from H6.out.next hb); clear hb H6) | (go_at_call 14; (with_reducible refine (HE2.out _ G cp H7.out.r).mono ?_); rintro e w8 ⟨rfl, ht⟩; have H8 := hid (H7.out.turn ht); obtain ⟨G2, hG⟩ : ∃ G2 : Nat → Prop, (fun k => G k ∧ k < w7.heap.size) = G2 := ⟨_, rfl⟩; rw [hG] at H8; clear ht H7 HE2 hG) | (go_at_call 8; (with_reducible refine (HNm1.out _ H8.out.low).mono ?_); rintro e w9 ⟨rfl, hb⟩; have H9 := hid (show LFS w w9 #[.int .i64 K, .int .i64 N, .int .i64 m, .slice p n c, .bool true] K N m s9 s9 ⟨dmo, dle, dst, de, ddi, dsi, dmr, dli, dby, dtr, G2⟩ lp ln lc tp tn tc g gB cp from H8.out.next hb); clear hb H8))
            have HR9 := hid (HRG.out G2)
            clear HRG HNm1
            have HU := hid (show LFS w w9.drew #[.int .i64 K, .int .i64 N, .int .i64 m, .slice p n c, .bool true] K N m s9 s9 ⟨dmo, dle, dst, de, ddi, dsi, dmr, dli, dby, dtr, G2⟩ lp ln lc tp tn tc g gB cp from H9.out.drew)
            generalize hW20 : w9.drew = W20 at HU
            obtain ⟨tn0, htn0⟩ : ∃ k, (trX s9).length = k := ⟨_, rfl⟩
            have HTn := hid htn0
            have HT64 := hid (show tn0 ≤ 64 from by rw [← htn0]; exact trz_len HI9.out)
            clear htn0
            refine wp_region_noPanic ?_
            refine any_begin 16 (by kernel_rfl) (by kernel_rfl) ?_
            rw [hW20]
            clear hW20 H9
            refine late_begin (fun U => RdEF U gB (.cells #[.int .i64 K, .int .i64 N, .int .i64 m, .int .i64 (s9.told : Int), .bool s9.done, .int .i64 (s9.err : Int), .int .i64 (dmo : Int), .int .i64 (dle : Int), .int .i64 (dst : Int), .int .i64 (de : Int), .int .i64 (ddi : Int), .int .i64 (dsi : Int), .int .i64 (dmr : Int), .slice lp ln lc, .int .i64 (dby : Int), .slice tp tn tc] 37 (0, 0))) (fun _ => false) (show RdEF W20 gB (.cells #[.int .i64 K, .int .i64 N, .int .i64 m, .int .i64 (s9.told : Int), .bool s9.done, .int .i64 (s9.err : Int), .int .i64 (dmo : Int), .int .i64 (dle : Int), .int .i64 (dst : Int), .int .i64 (de : Int), .int .i64 (ddi : Int), .int .i64 (dsi : Int), .int .i64 (dmr : Int), .slice lp ln lc, .int .i64 (dby : Int), .slice tp tn tc] 37 (0, 0)) from ⟨HU.out.bb⟩) (fun hS => ?_)
            refine late_take (i := 0) (some 151) rfl rfl (by kernel_rfl) (by kernel_rfl) (by kernel_rfl) (by kernel_rfl) (by kernel_rfl) (fun _ _ _ h => h) (by rfl) (v := ?v0utq) ?hy0utq hS ?rest0utq
            case hy0utq => intro w0 hSw; obtain ⟨y0, y1, y2, y3, y4, y5, y6, y7, y8, y9, y10, y11, y12, y13, y14, y15, _⟩ := cells16 hSw.bb; go_simp; try with_reducible rfl
            simp only [Act.put, List.setIfInBounds_toArray, List.set_cons_zero, List.set_cons_succ]
            refine late_take (i := 2) (some 153) rfl rfl (by kernel_rfl) (by kernel_rfl) (by kernel_rfl) (by kernel_rfl) (by kernel_rfl) (fun _ _ _ h => h) (by rfl) (v := ?v2utq) ?hy2utq hS ?rest2utq
            case hy2utq => intro w0 hSw; obtain ⟨y0, y1, y2, y3, y4, y5, y6, y7, y8, y9, y10, y11, y12, y13, y14, y15, _⟩ := cells16 hSw.bb; go_simp; try with_reducible rfl
            simp only [Act.put, List.setIfInBounds_toArray, List.set_cons_zero, List.set_cons_succ]
            refine late_take (i := 3) (some 154) rfl rfl (by kernel_rfl) (by kernel_rfl) (by kernel_rfl) (by kernel_rfl) (by kernel_rfl) (fun _ _ _ h => h) (by rfl) (v := ?v3utq) ?hy3utq hS ?rest3utq
            case hy3utq => intro w0 hSw; obtain ⟨y0, y1, y2, y3, y4, y5, y6, y7, y8, y9, y10, y11, y12, y13, y14, y15, _⟩ := cells16 hSw.bb; go_simp; try with_reducible rfl
            simp only [Act.put, List.setIfInBounds_toArray, List.set_cons_zero, List.set_cons_succ]
            refine wpAnyD_one (i := 1) (by kernel_rfl) rfl (fun K' hK => ?_)
            go_simp
            go_at_call 13
            refine (donex_any g s9.done W20 HU.out.r.cells.a4).mono ?_
            rintro e w9 ⟨rfl, hw9⟩
            subst w9
            refine hK _ _ ⟨fun _ => hS, ?_⟩
            clear hK K'
            refine late_take (i := 4) (some 155) rfl rfl (by kernel_rfl) (by kernel_rfl) (by kernel_rfl) (by kernel_rfl) (by kernel_rfl) (fun _ _ _ h => h) (by rfl) (v := .bool true) ?hy4utq hS ?rest4utq
            case hy4utq => intro w0 hSw; obtain ⟨y0, y1, y2, y3, y4, y5, y6, y7, y8, y9, y10, y11, y12, y13, y14, y15, _⟩ := cells16 hSw.bb; go_simp; try with_reducible rfl
            simp only [Act.put, List.setIfInBounds_toArray, List.set_cons_zero, List.set_cons_succ]
            refine late_take (i := 5) (some 156) rfl rfl (by kernel_rfl) (by kernel_rfl) (by kernel_rfl) (by kernel_rfl) (by kernel_rfl) (fun _ _ _ h => h) (by rfl) (v := ?v5utq) ?hy5utq hS ?rest5utq
            case hy5utq => intro w0 hSw; obtain ⟨y0, y1, y2, y3, y4, y5, y6, y7, y8, y9, y10, y11, y12, y13, y14, y15, _⟩ := cells16 hSw.bb; go_simp; try with_reducible rfl
            simp only [Act.put, List.setIfInBounds_toArray, List.set_cons_zero, List.set_cons_succ]
            refine late_take (i := 6) (some 157) rfl rfl (by kernel_rfl) (by kernel_rfl) (by kernel_rfl) (by kernel_rfl) (by kernel_rfl) (fun _ _ _ h => h) (by rfl) (v := ?v6utq) ?hy6utq hS ?rest6utq
            case hy6utq => intro w0 hSw; obtain ⟨y0, y1, y2, y3, y4, y5, y6, y7, y8, y9, y10, y11, y12, y13, y14, y15, _⟩ := cells16 hSw.bb; go_simp; try with_reducible rfl
            simp only [Act.put, List.setIfInBounds_toArray, List.set_cons_zero, List.set_cons_succ]
            refine late_take (i := 8) (some 159) rfl rfl (by kernel_rfl) (by kernel_rfl) (by kernel_rfl) (by kernel_rfl) (by kernel_rfl) (fun _ _ _ h => h) (by rfl) (v := .agg #[.int .i64 K, .int .i64 N, .int .i64 m, .int .i64 (s9.told : Int), .bool s9.done, .int .i64 (s9.err : Int), .int .i64 (dmo : Int), .int .i64 (dle : Int), .int .i64 (dst : Int), .int .i64 (de : Int), .int .i64 (ddi : Int), .int .i64 (dsi : Int), .int .i64 (dmr : Int), .slice lp ln lc, .int .i64 (dby : Int), .slice tp tn tc]) ?hy8utq hS ?rest8utq
            case hy8utq => intro w0 hSw; obtain ⟨y0, y1, y2, y3, y4, y5, y6, y7, y8, y9, y10, y11, y12, y13, y14, y15, _⟩ := cells16 hSw.bb; go_simp; try with_reducible rfl
            simp only [Act.put, List.setIfInBounds_toArray, List.set_cons_zero, List.set_cons_succ]
            refine wpAnyD_one (i := 7) (by kernel_rfl) rfl (fun K' hK => ?_)
            go_simp
            go_at_call 17
            refine (trz_as HU.out.r HI9.out HTn.out).mono ?_
            rintro e w21 ⟨q21, d21, rfl, ho, hb⟩
            have HV := hid (show LFS w w21 #[.int .i64 K, .int .i64 N, .int .i64 m, .slice p n c, .bool true] K N m s9 s9 ⟨dmo, dle, dst, de, ddi, dsi, dmr, dli, dby, dtr, G2⟩ lp ln lc tp tn tc g gB cp from HU.out.next hb)
            have HFA := hid (OwnF.fat ho)
            have hS2 : RdEF w21 gB (.cells #[.int .i64 K, .int .i64 N, .int .i64 m, .int .i64 (s9.told : Int), .bool s9.done, .int .i64 (s9.err : Int), .int .i64 (dmo : Int), .int .i64 (dle : Int), .int .i64 (dst : Int), .int .i64 (de : Int), .int .i64 (ddi : Int), .int .i64 (dsi : Int), .int .i64 (dmr : Int), .slice lp ln lc, .int .i64 (dby : Int), .slice tp tn tc] 37 (0, 0)) := ⟨HV.out.bb⟩
            refine hK _ _ ⟨fun _ => hS2, ?_⟩
            clear hK K' ho hb HU hS
            refine wpAnyD_one (i := 9) (by kernel_rfl) rfl (fun K' hK => ?_)
            go_simp
            go_at_call 18
            refine (dtr_any HR9.out lp tp ln lc tn tc HV.out.ht w21 HV.out.rows).mono ?_
            rintro e w22 ⟨q22, n22, d22, rfl, hn22, hf22, hb⟩
            rw [HTn.out] at hn22
            subst hn22
            have HX2 := hid (show LFS w w22 #[.int .i64 K, .int .i64 N, .int .i64 m, .slice p n c, .bool true] K N m s9 s9 ⟨dmo, dle, dst, de, ddi, dsi, dmr, dli, dby, dtr, G2⟩ lp ln lc tp tn tc g gB cp from HV.out.next hb)
            have HFB := hid (HFA.out.next hb)
            have HFC := hid hf22
            have hS3 : RdEF w22 gB (.cells #[.int .i64 K, .int .i64 N, .int .i64 m, .int .i64 (s9.told : Int), .bool s9.done, .int .i64 (s9.err : Int), .int .i64 (dmo : Int), .int .i64 (dle : Int), .int .i64 (dst : Int), .int .i64 (de : Int), .int .i64 (ddi : Int), .int .i64 (dsi : Int), .int .i64 (dmr : Int), .slice lp ln lc, .int .i64 (dby : Int), .slice tp tn tc] 37 (0, 0)) := ⟨HX2.out.bb⟩
            refine hK _ _ ⟨fun _ => hS3, ?_⟩
            clear hK K' hf22 hb HV hS2 HFA
            refine wpAnyD_one (i := 10) (by kernel_rfl) rfl (fun K' hK => ?_)
            go_simp
            go_at_call 16
            refine (bfields_same (trX s9) q21 q22 tn0 d21 d22 HTn.out w22 HFB.out HFC.out (Nat.le_trans HT64.out (by decide))).mono ?_
            rintro e w23 ⟨rfl, hb⟩
            have HX3 := hid (show LFS w w23 #[.int .i64 K, .int .i64 N, .int .i64 m, .slice p n c, .bool true] K N m s9 s9 ⟨dmo, dle, dst, de, ddi, dsi, dmr, dli, dby, dtr, G2⟩ lp ln lc tp tn tc g gB cp from HX2.out.next hb)
            have hS4 : RdEF w23 gB (.cells #[.int .i64 K, .int .i64 N, .int .i64 m, .int .i64 (s9.told : Int), .bool s9.done, .int .i64 (s9.err : Int), .int .i64 (dmo : Int), .int .i64 (dle : Int), .int .i64 (dst : Int), .int .i64 (de : Int), .int .i64 (ddi : Int), .int .i64 (dsi : Int), .int .i64 (dmr : Int), .slice lp ln lc, .int .i64 (dby : Int), .slice tp tn tc] 37 (0, 0)) := ⟨HX3.out.bb⟩
            refine hK _ _ ⟨fun _ => hS4, ?_⟩
            clear hK K' hb HX2 hS3 HFB HFC
            refine late_take (i := 11) (some 162) rfl rfl (by kernel_rfl) (by kernel_rfl) (by kernel_rfl) (by kernel_rfl) (by kernel_rfl) (fun _ _ _ h => h) (by rfl) (v := ?v11utq) ?hy11utq hS4 ?rest11utq
            case hy11utq => intro w0 hSw; obtain ⟨y0, y1, y2, y3, y4, y5, y6, y7, y8, y9, y10, y11, y12, y13, y14, y15, _⟩ := cells16 hSw.bb; go_simp; try with_reducible rfl
            simp only [Act.put, List.setIfInBounds_toArray, List.set_cons_zero, List.set_cons_succ]
            refine late_take (i := 12) (some 163) rfl rfl (by kernel_rfl) (by kernel_rfl) (by kernel_rfl) (by kernel_rfl) (by kernel_rfl) (fun _ _ _ h => h) (by rfl) (v := ?v12utq) ?hy12utq hS4 ?rest12utq
            case hy12utq => intro w0 hSw; obtain ⟨y0, y1, y2, y3, y4, y5, y6, y7, y8, y9, y10, y11, y12, y13, y14, y15, _⟩ := cells16 hSw.bb; go_simp; try with_reducible rfl
            simp only [Act.put, List.setIfInBounds_toArray, List.set_cons_zero, List.set_cons_succ]
            refine wpAnyD_one (i := 13) (by kernel_rfl) rfl (fun K' hK => ?_)
            go_simp
            go_at_call 9
            refine (HSu.out w23 HX3.out.low).mono ?_
            rintro e w24 ⟨rfl, hb⟩
            have HX4 := hid (show LFS w w24 #[.int .i64 K, .int .i64 N, .int .i64 m, .slice p n c, .bool true] K N m s9 s9 ⟨dmo, dle, dst, de, ddi, dsi, dmr, dli, dby, dtr, G2⟩ lp ln lc tp tn tc g gB cp from HX3.out.next hb)
            have hS5 : RdEF w24 gB (.cells #[.int .i64 K, .int .i64 N, .int .i64 m, .int .i64 (s9.told : Int), .bool s9.done, .int .i64 (s9.err : Int), .int .i64 (dmo : Int), .int .i64 (dle : Int), .int .i64 (dst : Int), .int .i64 (de : Int), .int .i64 (ddi : Int), .int .i64 (dsi : Int), .int .i64 (dmr : Int), .slice lp ln lc, .int .i64 (dby : Int), .slice tp tn tc] 37 (0, 0)) := ⟨HX4.out.bb⟩
            refine hK _ _ ⟨fun _ => hS5, ?_⟩
            clear hK K' hb HX3 hS4
            refine late_take (i := 14) (some 165) rfl rfl (by kernel_rfl) (by kernel_rfl) (by kernel_rfl) (by kernel_rfl) (by kernel_rfl) (fun _ _ _ h => h) (by rfl) (v := ?v14utq) ?hy14utq hS5 ?rest14utq
            case hy14utq => intro w0 hSw; obtain ⟨y0, y1, y2, y3, y4, y5, y6, y7, y8, y9, y10, y11, y12, y13, y14, y15, _⟩ := cells16 hSw.bb; go_simp; try with_reducible rfl
            simp only [Act.put, List.setIfInBounds_toArray, List.set_cons_zero, List.set_cons_succ]
            refine late_take (i := 15) (some 2) rfl rfl (by kernel_rfl) (by kernel_rfl) (by kernel_rfl) (by kernel_rfl) (by kernel_rfl) (fun _ _ _ h => h) (by rfl) (v := ?v15utq) ?hy15utq hS5 ?rest15utq
            case hy15utq => intro w0 hSw; obtain ⟨y0, y1, y2, y3, y4, y5, y6, y7, y8, y9, y10, y11, y12, y13, y14, y15, _⟩ := cells16 hSw.bb; go_simp; try with_reducible rfl
            simp only [Act.put, List.setIfInBounds_toArray, List.set_cons_zero, List.set_cons_succ]
            refine late_done (by kernel_rfl) ?_ _
            refine NoPanic.normal ?_
            clear hS5
            go_wp2
            go_ret
            exact ⟨rfl, HX4.out.low⟩
    · have hltI : ¬ (i : Int) < (n : Int) := by omega
      obtain ⟨dmo, dle, dst, de, ddi, dsi, dmr, dli, dby, dtr, gh1⟩ := d
      clear HN HP
      cases E
      · as_aux_lemma =>
          clear HNm
          go_wp2
          clear b0 b1 b2 b3 b4
          have HU := hid (show LFS w wr.drew #[.int .i64 K, .int .i64 N, .int .i64 m, .slice p n c, .bool false] K N m s s ⟨dmo, dle, dst, de, ddi, dsi, dmr, dli, dby, dtr, gh1⟩ lp ln lc tp tn tc g gB cp from HY.out.drew)
          generalize hW20 : wr.drew = W20 at HU
          obtain ⟨tn0, htn0⟩ : ∃ k, (trX s).length = k := ⟨_, rfl⟩
          have HTn := hid htn0
          have HT64 := hid (show tn0 ≤ 64 from by rw [← htn0]; exact trz_len HI.out)
          clear htn0
          refine wp_region_noPanic ?_
          refine any_begin 16 (by kernel_rfl) (by kernel_rfl) ?_
          rw [hW20]
          clear hW20 HY
          refine late_begin (fun U => RdEF U gB (.cells #[.int .i64 K, .int .i64 N, .int .i64 m, .int .i64 (s.told : Int), .bool s.done, .int .i64 (s.err : Int), .int .i64 (dmo : Int), .int .i64 (dle : Int), .int .i64 (dst : Int), .int .i64 (de : Int), .int .i64 (ddi : Int), .int .i64 (dsi : Int), .int .i64 (dmr : Int), .slice lp ln lc, .int .i64 (dby : Int), .slice tp tn tc] 37 (0, 0))) (fun _ => false) (show RdEF W20 gB (.cells #[.int .i64 K, .int .i64 N, .int .i64 m, .int .i64 (s.told : Int), .bool s.done, .int .i64 (s.err : Int), .int .i64 (dmo : Int), .int .i64 (dle : Int), .int .i64 (dst : Int), .int .i64 (de : Int), .int .i64 (ddi : Int), .int .i64 (dsi : Int), .int .i64 (dmr : Int), .slice lp ln lc, .int .i64 (dby : Int), .slice tp tn tc] 37 (0, 0)) from ⟨HU.out.bb⟩) (fun hS => ?_)
          refine late_take (i := 0) (some 151) rfl rfl (by kernel_rfl) (by kernel_rfl) (by kernel_rfl) (by kernel_rfl) (by kernel_rfl) (fun _ _ _ h => h) (by rfl) (v := ?v0vfq) ?hy0vfq hS ?rest0vfq
          case hy0vfq => intro w0 hSw; obtain ⟨y0, y1, y2, y3, y4, y5, y6, y7, y8, y9, y10, y11, y12, y13, y14, y15, _⟩ := cells16 hSw.bb; go_simp; try with_reducible rfl
          simp only [Act.put, List.setIfInBounds_toArray, List.set_cons_zero, List.set_cons_succ]
          refine late_take (i := 2) (some 153) rfl rfl (by kernel_rfl) (by kernel_rfl) (by kernel_rfl) (by kernel_rfl) (by kernel_rfl) (fun _ _ _ h => h) (by rfl) (v := ?v2vfq) ?hy2vfq hS ?rest2vfq
          case hy2vfq => intro w0 hSw; obtain ⟨y0, y1, y2, y3, y4, y5, y6, y7, y8, y9, y10, y11, y12, y13, y14, y15, _⟩ := cells16 hSw.bb; go_simp; try with_reducible rfl
          simp only [Act.put, List.setIfInBounds_toArray, List.set_cons_zero, List.set_cons_succ]
          refine late_take (i := 3) (some 154) rfl rfl (by kernel_rfl) (by kernel_rfl) (by kernel_rfl) (by kernel_rfl) (by kernel_rfl) (fun _ _ _ h => h) (by rfl) (v := ?v3vfq) ?hy3vfq hS ?rest3vfq
          case hy3vfq => intro w0 hSw; obtain ⟨y0, y1, y2, y3, y4, y5, y6, y7, y8, y9, y10, y11, y12, y13, y14, y15, _⟩ := cells16 hSw.bb; go_simp; try with_reducible rfl
          simp only [Act.put, List.setIfInBounds_toArray, List.set_cons_zero, List.set_cons_succ]
          refine wpAnyD_one (i := 1) (by kernel_rfl) rfl (fun K' hK => ?_)
          go_simp
          go_at_call 13
          refine (donex_any g s.done W20 HU.out.r.cells.a4).mono ?_
          rintro e w9 ⟨rfl, hw9⟩
          subst w9
          refine hK _ _ ⟨fun _ => hS, ?_⟩
          clear hK K'
          refine late_take (i := 4) (some 155) rfl rfl (by kernel_rfl) (by kernel_rfl) (by kernel_rfl) (by kernel_rfl) (by kernel_rfl) (fun _ _ _ h => h) (by rfl) (v := .bool true) ?hy4vfq hS ?rest4vfq
          case hy4vfq => intro w0 hSw; obtain ⟨y0, y1, y2, y3, y4, y5, y6, y7, y8, y9, y10, y11, y12, y13, y14, y15, _⟩ := cells16 hSw.bb; go_simp; try with_reducible rfl
          simp only [Act.put, List.setIfInBounds_toArray, List.set_cons_zero, List.set_cons_succ]
          refine late_take (i := 5) (some 156) rfl rfl (by kernel_rfl) (by kernel_rfl) (by kernel_rfl) (by kernel_rfl) (by kernel_rfl) (fun _ _ _ h => h) (by rfl) (v := ?v5vfq) ?hy5vfq hS ?rest5vfq
          case hy5vfq => intro w0 hSw; obtain ⟨y0, y1, y2, y3, y4, y5, y6, y7, y8, y9, y10, y11, y12, y13, y14, y15, _⟩ := cells16 hSw.bb; go_simp; try with_reducible rfl
          simp only [Act.put, List.setIfInBounds_toArray, List.set_cons_zero, List.set_cons_succ]
          refine late_take (i := 6) (some 157) rfl rfl (by kernel_rfl) (by kernel_rfl) (by kernel_rfl) (by kernel_rfl) (by kernel_rfl) (fun _ _ _ h => h) (by rfl) (v := ?v6vfq) ?hy6vfq hS ?rest6vfq
          case hy6vfq => intro w0 hSw; obtain ⟨y0, y1, y2, y3, y4, y5, y6, y7, y8, y9, y10, y11, y12, y13, y14, y15, _⟩ := cells16 hSw.bb; go_simp; try with_reducible rfl
          simp only [Act.put, List.setIfInBounds_toArray, List.set_cons_zero, List.set_cons_succ]
          refine late_take (i := 8) (some 159) rfl rfl (by kernel_rfl) (by kernel_rfl) (by kernel_rfl) (by kernel_rfl) (by kernel_rfl) (fun _ _ _ h => h) (by rfl) (v := .agg #[.int .i64 K, .int .i64 N, .int .i64 m, .int .i64 (s.told : Int), .bool s.done, .int .i64 (s.err : Int), .int .i64 (dmo : Int), .int .i64 (dle : Int), .int .i64 (dst : Int), .int .i64 (de : Int), .int .i64 (ddi : Int), .int .i64 (dsi : Int), .int .i64 (dmr : Int), .slice lp ln lc, .int .i64 (dby : Int), .slice tp tn tc]) ?hy8vfq hS ?rest8vfq
          case hy8vfq => intro w0 hSw; obtain ⟨y0, y1, y2, y3, y4, y5, y6, y7, y8, y9, y10, y11, y12, y13, y14, y15, _⟩ := cells16 hSw.bb; go_simp; try with_reducible rfl
          simp only [Act.put, List.setIfInBounds_toArray, List.set_cons_zero, List.set_cons_succ]
          refine wpAnyD_one (i := 7) (by kernel_rfl) rfl (fun K' hK => ?_)
          go_simp
          go_at_call 17
          refine (trz_as HU.out.r HI.out HTn.out).mono ?_
          rintro e w21 ⟨q21, d21, rfl, ho, hb⟩
          have HV := hid (show LFS w w21 #[.int .i64 K, .int .i64 N, .int .i64 m, .slice p n c, .bool false] K N m s s ⟨dmo, dle, dst, de, ddi, dsi, dmr, dli, dby, dtr, gh1⟩ lp ln lc tp tn tc g gB cp from HU.out.next hb)
          have HFA := hid (OwnF.fat ho)
          have hS2 : RdEF w21 gB (.cells #[.int .i64 K, .int .i64 N, .int .i64 m, .int .i64 (s.told : Int), .bool s.done, .int .i64 (s.err : Int), .int .i64 (dmo : Int), .int .i64 (dle : Int), .int .i64 (dst : Int), .int .i64 (de : Int), .int .i64 (ddi : Int), .int .i64 (dsi : Int), .int .i64 (dmr : Int), .slice lp ln lc, .int .i64 (dby : Int), .slice tp tn tc] 37 (0, 0)) := ⟨HV.out.bb⟩
          refine hK _ _ ⟨fun _ => hS2, ?_⟩
          clear hK K' ho hb HU hS
          refine wpAnyD_one (i := 9) (by kernel_rfl) rfl (fun K' hK => ?_)
          go_simp
          go_at_call 18
          refine (dtr_any HR.out lp tp ln lc tn tc HV.out.ht w21 HV.out.rows).mono ?_
          rintro e w22 ⟨q22, n22, d22, rfl, hn22, hf22, hb⟩
          rw [HTn.out] at hn22
          subst hn22
          have HX2 := hid (show LFS w w22 #[.int .i64 K, .int .i64 N, .int .i64 m, .slice p n c, .bool false] K N m s s ⟨dmo, dle, dst, de, ddi, dsi, dmr, dli, dby, dtr, gh1⟩ lp ln lc tp tn tc g gB cp from HV.out.next hb)
          have HFB := hid (HFA.out.next hb)
          have HFC := hid hf22
          have hS3 : RdEF w22 gB (.cells #[.int .i64 K, .int .i64 N, .int .i64 m, .int .i64 (s.told : Int), .bool s.done, .int .i64 (s.err : Int), .int .i64 (dmo : Int), .int .i64 (dle : Int), .int .i64 (dst : Int), .int .i64 (de : Int), .int .i64 (ddi : Int), .int .i64 (dsi : Int), .int .i64 (dmr : Int), .slice lp ln lc, .int .i64 (dby : Int), .slice tp tn tc] 37 (0, 0)) := ⟨HX2.out.bb⟩
          refine hK _ _ ⟨fun _ => hS3, ?_⟩
          clear hK K' hf22 hb HV hS2 HFA
          refine wpAnyD_one (i := 10) (by kernel_rfl) rfl (fun K' hK => ?_)
          go_simp
          go_at_call 16
          refine (bfields_same (trX s) q21 q22 tn0 d21 d22 HTn.out w22 HFB.out HFC.out (Nat.le_trans HT64.out (by decide))).mono ?_
          rintro e w23 ⟨rfl, hb⟩
          have HX3 := hid (show LFS w w23 #[.int .i64 K, .int .i64 N, .int .i64 m, .slice p n c, .bool false] K N m s s ⟨dmo, dle, dst, de, ddi, dsi, dmr, dli, dby, dtr, gh1⟩ lp ln lc tp tn tc g gB cp from HX2.out.next hb)
          have hS4 : RdEF w23 gB (.cells #[.int .i64 K, .int .i64 N, .int .i64 m, .int .i64 (s.told : Int), .bool s.done, .int .i64 (s.err : Int), .int .i64 (dmo : Int), .int .i64 (dle : Int), .int .i64 (dst : Int), .int .i64 (de : Int), .int .i64 (ddi : Int), .int .i64 (dsi : Int), .int .i64 (dmr : Int), .slice lp ln lc, .int .i64 (dby : Int), .slice tp tn tc] 37 (0, 0)) := ⟨HX3.out.bb⟩
          refine hK _ _ ⟨fun _ => hS4, ?_⟩
          clear hK K' hb HX2 hS3 HFB HFC
          refine late_take (i := 11) (some 162) rfl rfl (by kernel_rfl) (by kernel_rfl) (by kernel_rfl) (by kernel_rfl) (by kernel_rfl) (fun _ _ _ h => h) (by rfl) (v := ?v11vfq) ?hy11vfq hS4 ?rest11vfq
          case hy11vfq => intro w0 hSw; obtain ⟨y0, y1, y2, y3, y4, y5, y6, y7, y8, y9, y10, y11, y12, y13, y14, y15, _⟩ := cells16 hSw.bb; go_simp; try with_reducible rfl
          simp only [Act.put, List.setIfInBounds_toArray, List.set_cons_zero, List.set_cons_succ]
          refine late_take (i := 12) (some 163) rfl rfl (by kernel_rfl) (by kernel_rfl) (by kernel_rfl) (by kernel_rfl) (by kernel_rfl) (fun _ _ _ h => h) (by rfl) (v := ?v12vfq) ?hy12vfq hS4 ?rest12vfq
          case hy12vfq => intro w0 hSw; obtain ⟨y0, y1, y2, y3, y4, y5, y6, y7, y8, y9, y10, y11, y12, y13, y14, y15, _⟩ := cells16 hSw.bb; go_simp; try with_reducible rfl
          simp only [Act.put, List.setIfInBounds_toArray, List.set_cons_zero, List.set_cons_succ]
          refine wpAnyD_one (i := 13) (by kernel_rfl) rfl (fun K' hK => ?_)
          go_simp
          go_at_call 9
          refine (HSu.out w23 HX3.out.low).mono ?_
          rintro e w24 ⟨rfl, hb⟩
          have HX4 := hid (show LFS w w24 #[.int .i64 K, .int .i64 N, .int .i64 m, .slice p n c, .bool false] K N m s s ⟨dmo, dle, dst, de, ddi, dsi, dmr, dli, dby, dtr, gh1⟩ lp ln lc tp tn tc g gB cp from HX3.out.next hb)
          have hS5 : RdEF w24 gB (.cells #[.int .i64 K, .int .i64 N, .int .i64 m, .int .i64 (s.told : Int), .bool s.done, .int .i64 (s.err : Int), .int .i64 (dmo : Int), .int .i64 (dle : Int), .int .i64 (dst : Int), .int .i64 (de : Int), .int .i64 (ddi : Int), .int .i64 (dsi : Int), .int .i64 (dmr : Int), .slice lp ln lc, .int .i64 (dby : Int), .slice tp tn tc] 37 (0, 0)) := ⟨HX4.out.bb⟩
          refine hK _ _ ⟨fun _ => hS5, ?_⟩
          clear hK K' hb HX3 hS4
          refine late_take (i := 14) (some 165) rfl rfl (by kernel_rfl) (by kernel_rfl) (by kernel_rfl) (by kernel_rfl) (by kernel_rfl) (fun _ _ _ h => h) (by rfl) (v := ?v14vfq) ?hy14vfq hS5 ?rest14vfq
          case hy14vfq => intro w0 hSw; obtain ⟨y0, y1, y2, y3, y4, y5, y6, y7, y8, y9, y10, y11, y12, y13, y14, y15, _⟩ := cells16 hSw.bb; go_simp; try with_reducible rfl
          simp only [Act.put, List.setIfInBounds_toArray, List.set_cons_zero, List.set_cons_succ]
          refine late_take (i := 15) (some 2) rfl rfl (by kernel_rfl) (by kernel_rfl) (by kernel_rfl) (by kernel_rfl) (by kernel_rfl) (fun _ _ _ h => h) (by rfl) (v := ?v15vfq) ?hy15vfq hS5 ?rest15vfq
          case hy15vfq => intro w0 hSw; obtain ⟨y0, y1, y2, y3, y4, y5, y6, y7, y8, y9, y10, y11, y12, y13, y14, y15, _⟩ := cells16 hSw.bb; go_simp; try with_reducible rfl
          simp only [Act.put, List.setIfInBounds_toArray, List.set_cons_zero, List.set_cons_succ]
          refine late_done (by kernel_rfl) ?_ _
          refine NoPanic.normal ?_
          clear hS5
          go_wp2
          go_ret
          exact ⟨rfl, HX4.out.low⟩
      · as_aux_lemma =>
          obtain ⟨s9, hs9⟩ : ∃ s9, shutX s = s9 := ⟨_, rfl⟩
          obtain ⟨V, hV⟩ : ∃ V, errOf s9.err = V := ⟨_, rfl⟩
          have HI9 := hid (show InvX s9 from by rw [← hs9]; exact inv_shut HI.out)
          have HRG := hid (fun (G : Nat → Prop) => show RelB K N m s9 ⟨dmo, dle, dst, de, ddi, dsi, dmr, dli, dby, dtr, G⟩ from by rw [← hs9]; exact rel_shutB (relB_gh HR.out G))
          have HSh := hid (show shutX s9 = s9 from by rw [← hs9]; exact shut_over (over_shut s))
          have HE1 := hid (show Calls Tryz.prog 14 #[.pointer (some ⟨g, 0, none⟩)] wr fun e w' => e = .returned V ∧ TurnX gh1 wr w' g s9 (fun k => gh1 k ∧ k < wr.heap.size) cp from by
            have h := endz_as (E := V) HY.out.r (by rw [hs9]; exact hV)
            rw [hs9] at h
            exact h)
          have HE2 := hid (fun (W : World) (G : Nat → Prop) (cq : Option Addr) (h : BdAt G W g s9 cq) => show Calls Tryz.prog 14 #[.pointer (some ⟨g, 0, none⟩)] W fun e w' => e = .returned V ∧ TurnX G W w' g s9 (fun k => G k ∧ k < W.heap.size) cq from by
            have h5 := endz_as (E := V) h (by rw [HSh.out]; exact hV)
            rw [HSh.out] at h5
            exact h5)
          have HDe := hid (fun (W : World) (G : Nat → Prop) (hA : DkAt W ⟨dmo, dle, dst, de, ddi, dsi, dmr, dli, dby, dtr, G⟩ lp lc tp tc) => dend_any (relB_gh HR.out G) lp tp ln lc tn tc W hA)
          unfold DEndB bdV at HDe
          rw [hs9] at HDe
          have HNm1 := hid (HNm.out s9.err)
          rw [hV] at HNm1
          clear hs9 hV HNm HI HR HSh
          dsimp only at HDe
          go_wp2_with (first | (go_at_call 14; (with_reducible refine HE1.out.mono ?_); rintro e w1 ⟨rfl, ht⟩; have H1 := hid (HY.out.turn ht); clear ht HY HE1 b0 b1 b2 b3 b4; obtain ⟨G, hG⟩ : ∃ G : Nat → Prop, (fun k => gh1 k ∧ k < wr.heap.size) = G := ⟨_, rfl⟩; rw [hG] at H1; clear hG; obtain ⟨y0, y1, y2, y3, y4, y5, y6, y7, y8, y9, y10, y11, y12, y13, y14, y15, _⟩ := cells16 (show w1.heap[gB]? = some (.cells #[.int .i64 K, .int .i64 N, .int .i64 m, .int .i64 (s.told : Int), .bool s.done, .int .i64 (s.err : Int), .int .i64 (dmo : Int), .int .i64 (dle : Int), .int .i64 (dst : Int), .int .i64 (de : Int), .int .i64 (ddi : Int), .int .i64 (dsi : Int), .int .i64 (dmr : Int), .slice lp ln lc, .int .i64 (dby : Int), .slice tp tn tc] 37 (0, 0)) from H1.out.bb)) | (go_at_call 15; (with_reducible refine (HDe.out _ G H1.out.rows).mono ?_); rintro e w2 ⟨rfl, hr2, hb2⟩; have H2 := hid (show LFS w (w2.alloc (.cells #[.int .i64 K, .int .i64 N, .int .i64 m, .int .i64 (s9.told : Int), .bool s9.done, .int .i64 (s9.err : Int), .int .i64 (dmo : Int), .int .i64 (dle : Int), .int .i64 (dst : Int), .int .i64 (de : Int), .int .i64 (ddi : Int), .int .i64 (dsi : Int), .int .i64 (dmr : Int), .slice lp ln lc, .int .i64 (dby : Int), .slice tp tn tc] 37 (0, 0))) #[.int .i64 K, .int .i64 N, .int .i64 m, .slice p n c, .bool true] K N m s9 s ⟨dmo, dle, dst, de, ddi, dsi, dmr, dli, dby, dtr, G⟩ lp ln lc tp tn tc g gB cp from (H1.out.next hb2).next (below_new w2 _)); clear hr2 hb2 H1 HDe y0 y1 y2 y3 y4 y5 y6 y7 y8 y9 y10 y11 y12 y13 y14 y15) | (refine wpList_store_bd rfl (.tmp 5) (.tmp 139) rfl gB (by go_simp) K N m (s9.told : Int) s9.done (s9.err : Int) (dmo : Int) (dle : Int) (dst : Int) (de : Int) (ddi : Int) (dsi : Int) (dmr : Int) (dby : Int) lp tp ln tn lc tc (by go_simp) H2.out.bb ?_; intro U6 hV hO _; have H6 := hid (show LFS w U6 #[.int .i64 K, .int .i64 N, .int .i64 m, .slice p n c, .bool true] K N m s9 s9 ⟨dmo, dle, dst, de, ddi, dsi, dmr, dli, dby, dtr, G⟩ lp ln lc tp tn tc g gB cp from H2.out.put H2.out.rows rfl H2.out.hl H2.out.ht hV hO); clear hV hO H2) | (go_at_call 8; (with_reducible refine (HNm1.out _ H6.out.low).mono ?_); rintro e w7 ⟨rfl, hb⟩; have H7 := hid (show LFS w w7 #[.int .i64 K, .int .i64 N, .int .i64 m, .slice p n c, .bool true] K N m s9 s9 ⟨dmo, dle, dst, de, ddi, dsi, dmr, dli, dby, dtr, G⟩ lp ln lc tp tn tc g gB cp from H6.out.next hb); clear hb H6) | (go_at_call 14; (with_reducible refine (HE2.out _ G cp H7.out.r).mono ?_); rintro e w8 ⟨rfl, ht⟩; have H8 := hid (H7.out.turn ht); obtain ⟨G2, hG⟩ : ∃ G2 : Nat → Prop, (fun k => G k ∧ k < w7.heap.size) = G2 := ⟨_, rfl⟩; rw [hG] at H8; clear ht H7 HE2 hG) | (go_at_call 8; (with_reducible refine (HNm1.out _ H8.out.low).mono ?_); rintro e w9 ⟨rfl, hb⟩; have H9 := hid (show LFS w w9 #[.int .i64 K, .int .i64 N, .int .i64 m, .slice p n c, .bool true] K N m s9 s9 ⟨dmo, dle, dst, de, ddi, dsi, dmr, dli, dby, dtr, G2⟩ lp ln lc tp tn tc g gB cp from H8.out.next hb); clear hb H8))
          have HR9 := hid (HRG.out G2)
          clear HRG HNm1
          have HU := hid (show LFS w w9.drew #[.int .i64 K, .int .i64 N, .int .i64 m, .slice p n c, .bool true] K N m s9 s9 ⟨dmo, dle, dst, de, ddi, dsi, dmr, dli, dby, dtr, G2⟩ lp ln lc tp tn tc g gB cp from H9.out.drew)
          generalize hW20 : w9.drew = W20 at HU
          obtain ⟨tn0, htn0⟩ : ∃ k, (trX s9).length = k := ⟨_, rfl⟩
          have HTn := hid htn0
          have HT64 := hid (show tn0 ≤ 64 from by rw [← htn0]; exact trz_len HI9.out)
          clear htn0
          refine wp_region_noPanic ?_
          refine any_begin 16 (by kernel_rfl) (by kernel_rfl) ?_
          rw [hW20]
          clear hW20 H9
          refine late_begin (fun U => RdEF U gB (.cells #[.int .i64 K, .int .i64 N, .int .i64 m, .int .i64 (s9.told : Int), .bool s9.done, .int .i64 (s9.err : Int), .int .i64 (dmo : Int), .int .i64 (dle : Int), .int .i64 (dst : Int), .int .i64 (de : Int), .int .i64 (ddi : Int), .int .i64 (dsi : Int), .int .i64 (dmr : Int), .slice lp ln lc, .int .i64 (dby : Int), .slice tp tn tc] 37 (0, 0))) (fun _ => false) (show RdEF W20 gB (.cells #[.int .i64 K, .int .i64 N, .int .i64 m, .int .i64 (s9.told : Int), .bool s9.done, .int .i64 (s9.err : Int), .int .i64 (dmo : Int), .int .i64 (dle : Int), .int .i64 (dst : Int), .int .i64 (de : Int), .int .i64 (ddi : Int), .int .i64 (dsi : Int), .int .i64 (dmr : Int), .slice lp ln lc, .int .i64 (dby : Int), .slice tp tn tc] 37 (0, 0)) from ⟨HU.out.bb⟩) (fun hS => ?_)
          refine late_take (i := 0) (some 151) rfl rfl (by kernel_rfl) (by kernel_rfl) (by kernel_rfl) (by kernel_rfl) (by kernel_rfl) (fun _ _ _ h => h) (by rfl) (v := ?v0vtq) ?hy0vtq hS ?rest0vtq
          case hy0vtq => intro w0 hSw; obtain ⟨y0, y1, y2, y3, y4, y5, y6, y7, y8, y9, y10, y11, y12, y13, y14, y15, _⟩ := cells16 hSw.bb; go_simp; try with_reducible rfl
          simp only [Act.put, List.setIfInBounds_toArray, List.set_cons_zero, List.set_cons_succ]
          refine late_take (i := 2) (some 153) rfl rfl (by kernel_rfl) (by kernel_rfl) (by kernel_rfl) (by kernel_rfl) (by kernel_rfl) (fun _ _ _ h => h) (by rfl) (v := ?v2vtq) ?hy2vtq hS ?rest2vtq
          case hy2vtq => intro w0 hSw; obtain ⟨y0, y1, y2, y3, y4, y5, y6, y7, y8, y9, y10, y11, y12, y13, y14, y15, _⟩ := cells16 hSw.bb; go_simp; try with_reducible rfl
          simp only [Act.put, List.setIfInBounds_toArray, List.set_cons_zero, List.set_cons_succ]
          refine late_take (i := 3) (some 154) rfl rfl (by kernel_rfl) (by kernel_rfl) (by kernel_rfl) (by kernel_rfl) (by kernel_rfl) (fun _ _ _ h => h) (by rfl) (v := ?v3vtq) ?hy3vtq hS ?rest3vtq
          case hy3vtq => intro w0 hSw; obtain ⟨y0, y1, y2, y3, y4, y5, y6, y7, y8, y9, y10, y11, y12, y13, y14, y15, _⟩ := cells16 hSw.bb; go_simp; try with_reducible rfl
          simp only [Act.put, List.setIfInBounds_toArray, List.set_cons_zero, List.set_cons_succ]
          refine wpAnyD_one (i := 1) (by kernel_rfl) rfl (fun K' hK => ?_)
          go_simp
          go_at_call 13
          refine (donex_any g s9.done W20 HU.out.r.cells.a4).mono ?_
          rintro e w9 ⟨rfl, hw9⟩
          subst w9
          refine hK _ _ ⟨fun _ => hS, ?_⟩
          clear hK K'
          refine late_take (i := 4) (some 155) rfl rfl (by kernel_rfl) (by kernel_rfl) (by kernel_rfl) (by kernel_rfl) (by kernel_rfl) (fun _ _ _ h => h) (by rfl) (v := .bool true) ?hy4vtq hS ?rest4vtq
          case hy4vtq => intro w0 hSw; obtain ⟨y0, y1, y2, y3, y4, y5, y6, y7, y8, y9, y10, y11, y12, y13, y14, y15, _⟩ := cells16 hSw.bb; go_simp; try with_reducible rfl
          simp only [Act.put, List.setIfInBounds_toArray, List.set_cons_zero, List.set_cons_succ]
          refine late_take (i := 5) (some 156) rfl rfl (by kernel_rfl) (by kernel_rfl) (by kernel_rfl) (by kernel_rfl) (by kernel_rfl) (fun _ _ _ h => h) (by rfl) (v := ?v5vtq) ?hy5vtq hS ?rest5vtq
          case hy5vtq => intro w0 hSw; obtain ⟨y0, y1, y2, y3, y4, y5, y6, y7, y8, y9, y10, y11, y12, y13, y14, y15, _⟩ := cells16 hSw.bb; go_simp; try with_reducible rfl
          simp only [Act.put, List.setIfInBounds_toArray, List.set_cons_zero, List.set_cons_succ]
          refine late_take (i := 6) (some 157) rfl rfl (by kernel_rfl) (by kernel_rfl) (by kernel_rfl) (by kernel_rfl) (by kernel_rfl) (fun _ _ _ h => h) (by rfl) (v := ?v6vtq) ?hy6vtq hS ?rest6vtq
          case hy6vtq => intro w0 hSw; obtain ⟨y0, y1, y2, y3, y4, y5, y6, y7, y8, y9, y10, y11, y12, y13, y14, y15, _⟩ := cells16 hSw.bb; go_simp; try with_reducible rfl
          simp only [Act.put, List.setIfInBounds_toArray, List.set_cons_zero, List.set_cons_succ]
          refine late_take (i := 8) (some 159) rfl rfl (by kernel_rfl) (by kernel_rfl) (by kernel_rfl) (by kernel_rfl) (by kernel_rfl) (fun _ _ _ h => h) (by rfl) (v := .agg #[.int .i64 K, .int .i64 N, .int .i64 m, .int .i64 (s9.told : Int), .bool s9.done, .int .i64 (s9.err : Int), .int .i64 (dmo : Int), .int .i64 (dle : Int), .int .i64 (dst : Int), .int .i64 (de : Int), .int .i64 (ddi : Int), .int .i64 (dsi : Int), .int .i64 (dmr : Int), .slice lp ln lc, .int .i64 (dby : Int), .slice tp tn tc]) ?hy8vtq hS ?rest8vtq
          case hy8vtq => intro w0 hSw; obtain ⟨y0, y1, y2, y3, y4, y5, y6, y7, y8, y9, y10, y11, y12, y13, y14, y15, _⟩ := cells16 hSw.bb; go_simp; try with_reducible rfl
          simp only [Act.put, List.setIfInBounds_toArray, List.set_cons_zero, List.set_cons_succ]
          refine wpAnyD_one (i := 7) (by kernel_rfl) rfl (fun K' hK => ?_)
          go_simp
          go_at_call 17
          refine (trz_as HU.out.r HI9.out HTn.out).mono ?_
          rintro e w21 ⟨q21, d21, rfl, ho, hb⟩
          have HV := hid (show LFS w w21 #[.int .i64 K, .int .i64 N, .int .i64 m, .slice p n c, .bool true] K N m s9 s9 ⟨dmo, dle, dst, de, ddi, dsi, dmr, dli, dby, dtr, G2⟩ lp ln lc tp tn tc g gB cp from HU.out.next hb)
          have HFA := hid (OwnF.fat ho)
          have hS2 : RdEF w21 gB (.cells #[.int .i64 K, .int .i64 N, .int .i64 m, .int .i64 (s9.told : Int), .bool s9.done, .int .i64 (s9.err : Int), .int .i64 (dmo : Int), .int .i64 (dle : Int), .int .i64 (dst : Int), .int .i64 (de : Int), .int .i64 (ddi : Int), .int .i64 (dsi : Int), .int .i64 (dmr : Int), .slice lp ln lc, .int .i64 (dby : Int), .slice tp tn tc] 37 (0, 0)) := ⟨HV.out.bb⟩
          refine hK _ _ ⟨fun _ => hS2, ?_⟩
          clear hK K' ho hb HU hS
          refine wpAnyD_one (i := 9) (by kernel_rfl) rfl (fun K' hK => ?_)
          go_simp
          go_at_call 18
          refine (dtr_any HR9.out lp tp ln lc tn tc HV.out.ht w21 HV.out.rows).mono ?_
          rintro e w22 ⟨q22, n22, d22, rfl, hn22, hf22, hb⟩
          rw [HTn.out] at hn22
          subst hn22
          have HX2 := hid (show LFS w w22 #[.int .i64 K, .int .i64 N, .int .i64 m, .slice p n c, .bool true] K N m s9 s9 ⟨dmo, dle, dst, de, ddi, dsi, dmr, dli, dby, dtr, G2⟩ lp ln lc tp tn tc g gB cp from HV.out.next hb)
          have HFB := hid (HFA.out.next hb)
          have HFC := hid hf22
          have hS3 : RdEF w22 gB (.cells #[.int .i64 K, .int .i64 N, .int .i64 m, .int .i64 (s9.told : Int), .bool s9.done, .int .i64 (s9.err : Int), .int .i64 (dmo : Int), .int .i64 (dle : Int), .int .i64 (dst : Int), .int .i64 (de : Int), .int .i64 (ddi : Int), .int .i64 (dsi : Int), .int .i64 (dmr : Int), .slice lp ln lc, .int .i64 (dby : Int), .slice tp tn tc] 37 (0, 0)) := ⟨HX2.out.bb⟩
          refine hK _ _ ⟨fun _ => hS3, ?_⟩
          clear hK K' hf22 hb HV hS2 HFA
          refine wpAnyD_one (i := 10) (by kernel_rfl) rfl (fun K' hK => ?_)
          go_simp
          go_at_call 16
          refine (bfields_same (trX s9) q21 q22 tn0 d21 d22 HTn.out w22 HFB.out HFC.out (Nat.le_trans HT64.out (by decide))).mono ?_
          rintro e w23 ⟨rfl, hb⟩
          have HX3 := hid (show LFS w w23 #[.int .i64 K, .int .i64 N, .int .i64 m, .slice p n c, .bool true] K N m s9 s9 ⟨dmo, dle, dst, de, ddi, dsi, dmr, dli, dby, dtr, G2⟩ lp ln lc tp tn tc g gB cp from HX2.out.next hb)
          have hS4 : RdEF w23 gB (.cells #[.int .i64 K, .int .i64 N, .int .i64 m, .int .i64 (s9.told : Int), .bool s9.done, .int .i64 (s9.err : Int), .int .i64 (dmo : Int), .int .i64 (dle : Int), .int .i64 (dst : Int), .int .i64 (de : Int), .int .i64 (ddi : Int), .int .i64 (dsi : Int), .int .i64 (dmr : Int), .slice lp ln lc, .int .i64 (dby : Int), .slice tp tn tc] 37 (0, 0)) := ⟨HX3.out.bb⟩
          refine hK _ _ ⟨fun _ => hS4, ?_⟩
          clear hK K' hb HX2 hS3 HFB HFC
          refine late_take (i := 11) (some 162) rfl rfl (by kernel_rfl) (by kernel_rfl) (by kernel_rfl) (by kernel_rfl) (by kernel_rfl) (fun _ _ _ h => h) (by rfl) (v := ?v11vtq) ?hy11vtq hS4 ?rest11vtq
          case hy11vtq => intro w0 hSw; obtain ⟨y0, y1, y2, y3, y4, y5, y6, y7, y8, y9, y10, y11, y12, y13, y14, y15, _⟩ := cells16 hSw.bb; go_simp; try with_reducible rfl
          simp only [Act.put, List.setIfInBounds_toArray, List.set_cons_zero, List.set_cons_succ]
          refine late_take (i := 12) (some 163) rfl rfl (by kernel_rfl) (by kernel_rfl) (by kernel_rfl) (by kernel_rfl) (by kernel_rfl) (fun _ _ _ h => h) (by rfl) (v := ?v12vtq) ?hy12vtq hS4 ?rest12vtq
          case hy12vtq => intro w0 hSw; obtain ⟨y0, y1, y2, y3, y4, y5, y6, y7, y8, y9, y10, y11, y12, y13, y14, y15, _⟩ := cells16 hSw.bb; go_simp; try with_reducible rfl
          simp only [Act.put, List.setIfInBounds_toArray, List.set_cons_zero, List.set_cons_succ]
          refine wpAnyD_one (i := 13) (by kernel_rfl) rfl (fun K' hK => ?_)
          go_simp
          go_at_call 9
          refine (HSu.out w23 HX3.out.low).mono ?_
          rintro e w24 ⟨rfl, hb⟩
          have HX4 := hid (show LFS w w24 #[.int .i64 K, .int .i64 N, .int .i64 m, .slice p n c, .bool true] K N m s9 s9 ⟨dmo, dle, dst, de, ddi, dsi, dmr, dli, dby, dtr, G2⟩ lp ln lc tp tn tc g gB cp from HX3.out.next hb)
          have hS5 : RdEF w24 gB (.cells #[.int .i64 K, .int .i64 N, .int .i64 m, .int .i64 (s9.told : Int), .bool s9.done, .int .i64 (s9.err : Int), .int .i64 (dmo : Int), .int .i64 (dle : Int), .int .i64 (dst : Int), .int .i64 (de : Int), .int .i64 (ddi : Int), .int .i64 (dsi : Int), .int .i64 (dmr : Int), .slice lp ln lc, .int .i64 (dby : Int), .slice tp tn tc] 37 (0, 0)) := ⟨HX4.out.bb⟩
          refine hK _ _ ⟨fun _ => hS5, ?_⟩
          clear hK K' hb HX3 hS4
          refine late_take (i := 14) (some 165) rfl rfl (by kernel_rfl) (by kernel_rfl) (by kernel_rfl) (by kernel_rfl) (by kernel_rfl) (fun _ _ _ h => h) (by rfl) (v := ?v14vtq) ?hy14vtq hS5 ?rest14vtq
          case hy14vtq => intro w0 hSw; obtain ⟨y0, y1, y2, y3, y4, y5, y6, y7, y8, y9, y10, y11, y12, y13, y14, y15, _⟩ := cells16 hSw.bb; go_simp; try with_reducible rfl
          simp only [Act.put, List.setIfInBounds_toArray, List.set_cons_zero, List.set_cons_succ]
          refine late_take (i := 15) (some 2) rfl rfl (by kernel_rfl) (by kernel_rfl) (by kernel_rfl) (by kernel_rfl) (by kernel_rfl) (fun _ _ _ h => h) (by rfl) (v := ?v15vtq) ?hy15vtq hS5 ?rest15vtq
          case hy15vtq => intro w0 hSw; obtain ⟨y0, y1, y2, y3, y4, y5, y6, y7, y8, y9, y10, y11, y12, y13, y14, y15, _⟩ := cells16 hSw.bb; go_simp; try with_reducible rfl
          simp only [Act.put, List.setIfInBounds_toArray, List.set_cons_zero, List.set_cons_succ]
          refine late_done (by kernel_rfl) ?_ _
          refine NoPanic.normal ?_
          clear hS5
          go_wp2
          go_ret
          exact ⟨rfl, HX4.out.low⟩
end Go.Proofs.YtnlmjlfoeodleaaGreatDoor
