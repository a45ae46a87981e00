/- The document's reader of bodies: Feed, but of chunked bodies. -/
import Derived.Test.YtnlmjlfoeodleaaGreatDoorDBFeedO
import Derived.Test.YtnlmjlfoeodleaaGreatDoorDBFeedA
import Derived.Test.YtnlmjlfoeodleaaGreatDoorDBFeedC
import Derived.Test.YtnlmjlfoeodleaaGreatDoorDBNewP
namespace Go.Proofs.YtnlmjlfoeodleaaGreatDoor
theorem dbfeed_parts : True := trivial
end Go.Proofs.YtnlmjlfoeodleaaGreatDoor
/- The document's reader of bodies: Feed of a chunked body, of any body. -/
namespace Go.Proofs.YtnlmjlfoeodleaaGreatDoor
open Go.RowKit

theorem bfs_fed {w w2 : World} {C : Array Value} {d d1 : DK} {lp tp lp1 tp1 : Option Addr} {lc tc lc1 tc1 : Nat} {v v' : Value} {X Y : B} {W : World} (h : BFS w W C d lp lc tp tc v X) (hr : DkAt w2 d1 lp1 lc1 tp1 tc1) (ho : Own w2 W.heap.size v' Y) (hb : Below W.heap.size W w2) : BFS w w2 C d1 lp1 lc1 tp1 tc1 v' Y :=
  ⟨below_out h.low hb, blk_nextD h.b1 hb, blk_nextD h.b2 hb, Nat.le_trans h.sz hb.size, hr, own_base ho h.sz⟩
theorem dbf_fin2 {K N m : Int} {s : BS} {d d1 : DK} {l : B} {w U : World} {lp tp q : Option Addr} {ln lc tn tc dd M T : Nat} {C : Array Value} {X : B} (r1 : DkAt U d1 lp lc tp tc) (r2 : Own U w.heap.size (.slice q M dd) X) (r3 : Below w.heap.size w U) (hl : d1.line.length = ln) (ht : d1.tr.length = tn) (hdk : fedDK s d l = d1) (hC : bdV K N m (fedX s l) d1 (.slice lp ln lc) (.slice tp tn tc) = C) (hT : tookX s l = T) (hS : saidX s l = X) : DFedB K N m s d l w (.returned (.tuple #[.agg C, .int .i64 (T : Int), .slice q M dd])) U := by
  unfold DFedB
  have hm := slice_part r2
  rw [hdk]
  refine ⟨lp, ln, lc, tp, tn, tc, q, dd, ?_, hl, ht, r1, ?_, r3⟩
  · rw [hC, hT, hS, hm]
  · rw [hS, hm]; exact r2
set_option maxRecDepth 20000 in
set_option maxHeartbeats 16000000 in
theorem dbf_2 (N m : Int) (s : BS) (d : DK) (lp tp : Option Addr) (ln lc tn tc : Nat) (l : B) (p : Option Addr) (n c : Nat) (hn : l.length = n) (w : World) (hl : d.line.length = ln) (ht : d.tr.length = tn) (hA : DkAt w d lp lc tp tc) (ha : ArgAt w p l) (hnl : n ≤ 140737488351232) (hi : InvX s) (hR : RelB 2 N m s d) (hv : overX s = false) (hk : s.kind = 2) : Calls Tryz.prog 11 #[.agg (bdV 2 N m s d (.slice lp ln lc) (.slice tp tn tc)), .slice p n c] w (DFedB 2 N m s d l w) := by
  have hdk : fedDK s d l = (feedD d l).1 := by unfold fedDK; rw [if_pos ⟨hv, hk⟩]
  obtain ⟨hd0, he0⟩ := over_no hv
  obtain ⟨f1, f2, f3⟩ := fed_2 hv hk l
  obtain ⟨o1, o2, o3⟩ := hR.ok hk
  obtain ⟨r1, r2, r3⟩ := rel_feed l (hR.rel hk) (hi.ck hk).1 (hR.part hk)
  obtain ⟨x1, x2⟩ := rel_ends r1 (feed_inv l (hi.ck hk).1) (fk_11 l (hR.e11 hk))
  have hsm := (inv_fed hi l).small
  have hS0 := BFS.start (bdV 2 N m s d (.slice lp ln lc) (.slice tp tn tc)) hA
  have hFd := dfeed_any d lp tp ln lc tn tc l p n c hn ((w.alloc (.cells (bdV 2 N m s d (.slice lp ln lc) (.slice tp tn tc)) 37 (0, 0))).alloc (.cells zzB 37 (0, 0))) o1 o2 o3 hl ht hS0.rows (ha.next hS0.low) hnl
  unfold DFed at hFd
  obtain ⟨T, hT⟩ : ∃ T, s.told = T := ⟨_, rfl⟩
  obtain ⟨d1, hd1⟩ : ∃ d1, (feedD d l).1 = d1 := ⟨_, rfl⟩
  obtain ⟨TK, hTK⟩ : ∃ TK, (feedD d l).2.1 = TK := ⟨_, rfl⟩
  obtain ⟨X, hX⟩ : ∃ X, (feedD d l).2.2 = X := ⟨_, rfl⟩
  obtain ⟨M, hM⟩ : ∃ M, X.length = M := ⟨_, rfl⟩
  obtain ⟨b8, hb8⟩ : ∃ b8, decide (d1.st = 8) = b8 := ⟨_, rfl⟩
  rw [hd1, hTK, hX, hM, hb8] at hFd
  rw [hd1] at x1 x2
  rw [hd1] at hdk
  have HFt := hid (show (fedX s l).told = T + M from by rw [(fed_told s l).1, hT, f3, ← r3, hX, hM])
  have hwT : IntKind.i64.wrap ((T : Int) + (M : Int)) = (T : Int) + (M : Int) := by rw [IntKind.wrap_i64]; have := HFt.out; omega
  have HFn := hid (show (fedX s l).done = b8 from by rw [f1]; dsimp only; rw [← x2, hb8])
  have HFe := hid (show (fedX s l).err = d1.e from by rw [f1]; exact x1.symm)
  have HTk := hid (show tookX s l = TK from by rw [f2, ← r2, hTK])
  have HSa := hid (show saidX s l = X from by rw [f3, ← r3, hX])
  have HDk := hid hdk
  unfold bdV at hS0 hFd ⊢
  rw [hd0, he0, hT] at hS0 hFd ⊢
  rw [show ((0 : Nat) : Int) = 0 from rfl] at hS0 hFd ⊢
  have HS := hid hS0
  unfold dkC at hFd
  obtain ⟨most, len, st, e0, digits, size, more, line, bytes, tr, gh⟩ := d
  obtain ⟨mo1, le1, st1, e1, di1, si1, mr1, li1, by1, tr1, gh1⟩ := d1
  dsimp only at hFd HFe
  have HFd := hid hFd
  unfold zzB at HFd
  clear hn hl ht hA ha hnl hi hR hv hdk hd0 he0 f1 f2 f3 o1 o2 o3 r1 r2 r3 x1 x2 hsm hS0 hFd hT hd1 hTK hX hM hb8 hk
  dsimp only
  go_enter Tryz.func11, Tryz.ntmps11
  go_wp2_with (first | (go_at_call 34; (with_reducible refine HFd.out.mono ?_); rintro e w2 ⟨lp1, ln1, lc1, tp1, tn1, tc1, q, dd, rfl, hl1, ht1, hr1, ho1, hb1⟩; have H2 := hid (bfs_fed HS.out hr1 ho1 hb1); have HLn := hid hl1; have HTn := hid ht1; have H3 := hid (BFS.next H2.out (below_new w2 (.cells #[.int .i64 (mo1 : Int), .int .i64 (le1 : Int), .int .i64 (st1 : Int), .int .i64 (e1 : Int), .int .i64 (di1 : Int), .int .i64 (si1 : Int), .int .i64 (mr1 : Int), .slice lp1 ln1 lc1, .int .i64 (by1 : Int), .slice tp1 tn1 tc1] 35 (0, 0)))); clear hl1 ht1 hr1 ho1 hb1 H2 HFd) | (refine wpList_store_dk6 rfl (.tmp 39) (.tmp 36) rfl w.heap.size (by go_simp) (mo1 : Int) (le1 : Int) (st1 : Int) (e1 : Int) (di1 : Int) (si1 : Int) (mr1 : Int) (by1 : Int) lp1 tp1 ln1 tn1 lc1 tc1 (by go_simp) H3.out.b1 ?_; intro V hV hO hZ; have H4 := hid (BFS.box H3.out hV hO (dk_only H3.out.rows hO (dk_apart H3.out.rows (box_free H3.out.b1).1 (box_free H3.out.b1).2).1 (dk_apart H3.out.rows (box_free H3.out.b1).1 (box_free H3.out.b1).2).2)); clear hV hO hZ H3) | (refine wpList_store_b4 rfl (.tmp 40) (.tmp 37) rfl w.heap.size (by go_simp) b8 (by go_simp) H4.out.b1 ?_; intro V2 hV hO hZ; have H5 := hid (BFS.box H4.out hV hO (dk_only H4.out.rows hO (dk_apart H4.out.rows (box_free H4.out.b1).1 (box_free H4.out.b1).2).1 (dk_apart H4.out.rows (box_free H4.out.b1).1 (box_free H4.out.b1).2).2)); clear hV hO hZ H4) | (refine wpList_store_b5 rfl (.tmp 41) (.tmp 38) rfl w.heap.size (by go_simp) (e1 : Int) (by go_simp) H5.out.b1 ?_; intro V3 hV hO hZ; have H6 := hid (BFS.box H5.out hV hO (dk_only H5.out.rows hO (dk_apart H5.out.rows (box_free H5.out.b1).1 (box_free H5.out.b1).2).1 (dk_apart H5.out.rows (box_free H5.out.b1).1 (box_free H5.out.b1).2).2)); clear hV hO hZ H5; obtain ⟨j0, j1, j2, j3, j4, j5, j6, j7, j8, j9, j10, j11, j12, j13, j14, j15, _⟩ := cells16 H6.out.b1) | (refine wpList_store_b3 rfl (.tmp 47) (.tmp 46) rfl w.heap.size (by go_simp) ((T : Int) + (M : Int)) (by go_simp) H6.out.b1 ?_; intro V4 hV hO hZ; have H7 := hid (BFS.box H6.out hV hO (dk_only H6.out.rows hO (dk_apart H6.out.rows (box_free H6.out.b1).1 (box_free H6.out.b1).2).1 (dk_apart H6.out.rows (box_free H6.out.b1).1 (box_free H6.out.b1).2).2)); clear hV hO hZ H6 j0 j1 j2 j3 j4 j5 j6 j7 j8 j9 j10 j11 j12 j13 j14 j15; obtain ⟨p0, p1, p2, p3, p4, p5, p6, p7, p8, p9, p10, p11, p12, p13, p14, p15, _⟩ := cells16 H7.out.b1) | (refine wpList_store_bd rfl (.tmp 4) (.tmp 48) rfl (w.heap.size + 1) (by go_simp) 2 N m ((T : Int) + (M : Int)) b8 (e1 : Int) (mo1 : Int) (le1 : Int) (st1 : Int) (e1 : Int) (di1 : Int) (si1 : Int) (mr1 : Int) (by1 : Int) lp1 tp1 ln1 tn1 lc1 tc1 (by go_simp) H7.out.b2 ?_; intro U hU hO hZ; have HU := hid hU; have HO := hid (bfs_out H7.out hO (zz_free H7.out) rfl); clear hU hO hZ))
  (try go_wp2)
  refine bodyPost_ret (results_bd3 rfl _ _ _ 37 _ (0, 0) rfl HU.out rfl) rfl ?_
  obtain ⟨r1, r2, r3⟩ := HO.out
  exact dbf_fin2 r1 r2 r3 HLn.out HTn.out HDk.out (by unfold bdV; rw [HFt.out, HFn.out, HFe.out]; (first | done | (push_cast; rfl) | rfl)) HTk.out HSa.out
end Go.Proofs.YtnlmjlfoeodleaaGreatDoor
/- The document's reader of bodies: Feed of any body. -/
namespace Go.Proofs.YtnlmjlfoeodleaaGreatDoor
open Go.RowKit

theorem dfeedb_any {K N m : Int} {s : BS} {d : DK} (hR : RelB K N m s d) (hi : InvX s) (lp tp : Option Addr) (ln lc tn tc : Nat) (l : B) (p : Option Addr) (n c : Nat) (hn : l.length = n) (w : World) (hl : d.line.length = ln) (ht : d.tr.length = tn) (hA : DkAt w d lp lc tp tc) (ha : ArgAt w p l) (hnl : n ≤ 140737488351232) (hm : m = -1 → s.kind = 3 → n ≤ s.room) : Calls Tryz.prog 11 #[.agg (bdV K N m s d (.slice lp ln lc) (.slice tp tn tc)), .slice p n c] w (DFedB K N m s d l w) := by
  cases hv : overX s with
  | true =>
    cases hD : s.done with
    | true => exact dbf_o1 K N m s d lp tp ln lc tn tc l p n c w hl ht hA hv hD
    | false => exact dbf_o2 K N m s d lp tp ln lc tn tc l p n c w hl ht hA hv hD (by unfold overX at hv; rw [hD] at hv; simpa using hv)
  | false =>
    have hk := hR.k
    have h3 := hi.kind
    have h4 : s.kind = 0 ∨ s.kind = 1 ∨ s.kind = 2 ∨ s.kind = 3 := by omega
    rcases h4 with e | e | e | e
    · have h5 := hi.k0 e
      rw [(over_no hv).1] at h5
      cases h5
    · obtain rfl : K = 1 := by omega
      exact dbf_1 N m s d lp tp ln lc tn tc l p n c hn w hl ht hA ha hnl hi hR hv e
    · obtain rfl : K = 2 := by omega
      exact dbf_2 N m s d lp tp ln lc tn tc l p n c hn w hl ht hA ha hnl hi hR hv e
    · obtain rfl : K = 3 := by omega
      exact dbf_3 N m s d lp tp ln lc tn tc l p n c hn w hl ht hA ha hnl hi hR hv e (fun h5 => hm h5 e)
end Go.Proofs.YtnlmjlfoeodleaaGreatDoor
