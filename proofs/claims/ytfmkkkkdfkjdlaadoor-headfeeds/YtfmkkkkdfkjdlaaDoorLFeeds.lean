/- The law of feeding. -/
import Derived.Test.YtfmkkkkdfkjdlaaDoorLFeed0
namespace Go.Proofs.YtfmkkkkdfkjdlaaDoor
open Go.RowKit

theorem wpAnyD_two {P : Program} {ops : Array Oper} {Q : Exit → Act → World → Prop} {md : Region.Mode} {S : World → Prop} {D : Nat → Bool} {i j : Nat} {oi oj : Oper} {fuel : Nat} {listed : Array Bool} {a : Act} {w : World} (hr : Region.ready md ops listed = [i, j]) (hoi : ops[i]? = some oi) (hoj : ops[j]? = some oj)
    (h1 : ∀ K' : Act → World → Prop, (∀ a w, ((D i = false → S w) ∧ wpAnyD P md ops Q S D fuel (listed.setIfInBounds i true) a w) → K' a w) → if Region.wanted oi (yielded ops a.tmps) = true then Oper.wp P oi a w K' Q else K' (a.put oi.dst undef) w)
    (h2 : ∀ K' : Act → World → Prop, (∀ a w, ((D j = false → S w) ∧ wpAnyD P md ops Q S D fuel (listed.setIfInBounds j true) a w) → K' a w) → if Region.wanted oj (yielded ops a.tmps) = true then Oper.wp P oj a w K' Q else K' (a.put oj.dst undef) w) :
    wpAnyD P md ops Q S D (fuel + 1) listed a w := by
  refine ⟨fun h0 => (by rw [hr] at h0; cases h0), fun k hk => ?_⟩
  rw [hr] at hk
  simp only [List.mem_cons, List.not_mem_nil, or_false] at hk
  rcases hk with rfl | rfl
  · exact wpOp_step hoi h1
  · exact wpOp_step hoj h2
theorem three3 {W : World} {g : Nat} {a0 a1 a2 : Value} {T : TypeId} {fr : Nat × Nat} (h : W.heap[g]? = some (.cells #[a0, a1, a2] T fr)) : Three3 W g a0 a1 a2 := by
  refine ⟨?_, ?_, ?_⟩ <;> simp [World.cell?, h]
theorem box_kept {w w1 : World} {o o' : Obj} (h : o = o') (hb : Below (w.alloc o).heap.size (w.alloc o) w1) : w1.heap[w.heap.size]? = some o' := by
  have h1 := heap_alloc_new w o
  rw [← h]
  exact (hb.block _ (lt_of_heap h1)).trans h1
theorem reqS_few {s : PS} (h : InvP s) : (reqS s).fs.length ≤ 140737488355328 := by
  unfold reqS
  split
  · exact Nat.le_trans h.fields (by decide)
  · exact Nat.zero_le _
theorem respS_few {s : PS} (h : InvP s) : (respS s).fs.length ≤ 140737488355328 := by
  unfold respS
  split
  · exact Nat.le_trans h.fields (by decide)
  · exact Nat.zero_le _
set_option maxRecDepth 20000 in
set_option maxHeartbeats 8000000 in
theorem feeds_no (r : Bool) (m : Int) (v : Value) (w : World) (hm : ¬ (1 ≤ m ∧ m ≤ 65536)) (hE : EnvE w) (p : Option Addr) (n c : Nat) (hv : v = .slice p n c) : Calls Tryd.prog 4 #[.agg #[.bool r, .int .i64 m, v]] w fun e w' => e = .returned (.bool true) ∧ Below w.heap.size w w' := by
  subst hv
  have HR := hid (show ∀ W : World, _ from fun W => reader_no r m W hm)
  have HC := hid (show ∀ W : World, _ from fun W => newR_no r m W (by omega))
  have HN1 := hid (show ∀ W : World, Below w.heap.size w W → _ from fun W hb => num_any 1 W (hE.next hb))
  have HSu := hid (show ∀ W : World, _ from fun W => sure_any W)
  obtain ⟨V1, hV1⟩ : ∃ V, errOf 1 = V := ⟨_, rfl⟩
  rw [hV1] at HR HN1
  unfold headV newH at HC
  dsimp only at HC
  have HB0 := hid (below_new w (.cells #[.bool r, .int .i64 m, .slice p n c] 50 (0, 0)))
  clear hm hV1 hE
  go_enter Tryd.func4, Tryd.ntmps4
  go_wp2_with (first | (go_at_call 15; (with_reducible refine (HR.out _).mono ?_); rintro e w1 ⟨rfl, hw1⟩; subst w1; clear HR) | (go_at_call 16; (with_reducible refine (HC.out _).mono ?_); rintro e w2 ⟨rfl, hb⟩; have K2 := hid (below_out (below_out HB0.out hb) (below_new w2 (.cells #[.bool false, .int .i64 0, .slice none 0 0, .string ⟨#[]⟩, .int .i64 0, .bool false, .int .i64 0] 32 (0, 0)))); clear hb HC) | (go_at_call 12; (with_reducible refine (HN1.out _ K2.out).mono ?_); rintro e w3 ⟨rfl, hb⟩; have K3 := hid (below_out K2.out hb); clear hb HN1) | (go_at_call 14; (with_reducible refine (HSu.out _).mono ?_); rintro e w4 ⟨rfl, hb⟩; have K4 := hid (below_out K3.out hb); clear hb))
  go_ret
  exact ⟨rfl, K4.out⟩
set_option maxRecDepth 20000 in
set_option maxHeartbeats 16000000 in
theorem feeds_yes (r : Bool) (m : Int) (ls : List B) (p : Option Addr) (n c : Nat) (w : World) (hn : ls.length = n) (hm : 1 ≤ m ∧ m ≤ 65536) (hP : PcsAt w p ls) (hnn : n ≤ 140737488355328) (hE : EnvE w) : Calls Tryd.prog 4 #[.agg #[.bool r, .int .i64 m, .slice p n c]] w fun e w' => e = .returned (.bool true) ∧ Below w.heap.size w w' := by
  obtain ⟨i0, hi0, hz0, hz1, hz2⟩ := info_parts infoB
  have HR := hid (show ∀ W : World, _ from fun W => reader_yes r m W hm)
  have HC := hid (show ∀ W : World, _ from fun W => newR_ok r m W (by omega) (by omega))
  have HSu := hid (show ∀ W : World, _ from fun W => sure_any W)
  have HWn := hid (way_new r hm.2)
  have HE := hid hE
  have HP := hid hP
  have HN := hid hn
  unfold headV newH at HC
  dsimp only at HC
  rw [show str [] = ⟨#[]⟩ from rfl, show ((0 : Nat) : Int) = 0 from rfl] at HC
  obtain ⟨o0, ho0⟩ : ∃ o0 : Obj, o0 = .cells #[.bool r, .int .i64 m, .slice p n c] 50 (0, 0) := ⟨_, rfl⟩
  have HO0 := hid ho0
  clear hm hE hP hn
  go_enter Tryd.func4, Tryd.ntmps4
  go_wp2_with (first | (go_at_call 15; (with_reducible refine (HR.out _).mono ?_); rintro e w1 ⟨rfl, hr1, hb1, _⟩; rw [← ho0] at hr1 hb1 ⊢; obtain ⟨g1, hg1⟩ : ∃ g1, g1 = (w.alloc o0).heap.size := ⟨_, rfl⟩; rw [← hg1] at hr1 ⊢; have HR1 := hid (And.intro hg1 (And.intro hr1 hb1)); obtain ⟨b0, b1, b2⟩ := three3 (box_kept HO0.out hb1); clear hr1 hb1 hg1 HR) | (go_at_call 16; (with_reducible refine (HC.out _).mono ?_); rintro e w2 ⟨rfl, hb⟩; obtain ⟨F0, hF0⟩ := FS.start HO0.out HR1.out.1 HR1.out.2.1 HR1.out.2.2 hb; have HF0 := hid hF0; clear hF0 hb HC b0 b1 b2))
  obtain ⟨g5, hg5⟩ : ∃ g5, g5 = w2.heap.size := ⟨_, rfl⟩
  rw [← hg5] at HF0 ⊢
  clear hg5
  go_loopg [7] (n + 1) (fun gk s7 wr => ∃ (i : Nat) (F : Nat → Prop) (H : HS) (v : Value) (s : PS), s7 = .int .i64 (i : Int) ∧ i ≤ n ∧ gk = n - i + 1 ∧ FS w wr #[.bool r, .int .i64 m, .slice p n c] g1 g5 F H v s ∧ Way H s)
  case atStart => exact ⟨0, F0, newH r m, .slice none 0 0, newP r m, rfl, by omega, rfl, HF0.out, HWn.out⟩
  case round =>
    obtain ⟨i, F, H, v, s, rfl, hin, rfl, hfs, hway⟩ := hrel
    obtain ⟨vp, vc, hv⟩ := own_slice hfs.own
    subst hv
    obtain ⟨vn, hvn⟩ : ∃ vn, H.lines.length = vn := ⟨_, rfl⟩
    rw [hvn] at hfs
    have HY := hid hfs
    have HW := hid hway
    clear hfs hway hvn HR1 HF0 HWn HO0 ho0
    obtain ⟨b0, b1, b2⟩ := FS.three HY.out
    by_cases hlt : i < n
    · have hltI : (i : Int) < (n : Int) := by omega
      by_cases h60 : i < 60
      · have h60I : (i : Int) < 60 := by omega
        obtain ⟨l, hl⟩ : ∃ l, ls[i]? = some l := ⟨ls[i]'(by rw [HN.out]; exact hlt), List.getElem?_eq_getElem (by rw [HN.out]; exact hlt)⟩
        obtain ⟨g, o, q, cc, hp, hc0, hA0, hlen⟩ := HP.out i l hl
        subst hp
        obtain ⟨L, hL⟩ : ∃ L, l.length = L := ⟨_, rfl⟩
        rw [hL] at hc0 hlen
        have HLn := hid hL
        have HA0 := hid hA0
        have HC0 := hid hc0
        have hc : wr.cell? ⟨g, o + i, none⟩ = some (.slice q L cc) := cell_keep HY.out.low hc0
        have HFd := hid (show ∀ (W : World) (q1 : Option Addr) (c1 : Nat), Below wr.heap.size wr W → ArgAt W q1 l → (∀ a, q1 = some a → wr.heap.size ≤ a.block) → _ from fun W q1 c1 hb ha hq => feeds_feed (HY.out.next hb) HW.out l q1 L c1 HLn.out ha (fun a e _ hF => by have h1 := hq a e; have h2 := (HY.out.f a.block hF).2; omega) hlen)
        have HRf := hid (show ∀ W : World, Below w.heap.size w W → OwnS W 0 (.slice vp vn vc) H.lines → _ from fun W hb ho => feedR_any H l q L cc HLn.out 0 (.slice vp vn vc) W ho (HA0.out.next hb) (Nat.zero_le _) HW.out.invH hlen)
        have HNm := hid (show ∀ W : World, Below w.heap.size w W → _ from fun W hb => num_any (feedH H l).err W (HE.out.next hb))
        have HW1 := hid (HW.out.feed l)
        have HLn2 := hid (show ∀ (W : World) (G : Nat → Prop) (J : HS) (v : Value), FS w W #[.bool r, .int .i64 m, .slice (some ⟨g, o, none⟩) n c] g1 g5 G J v (feedP s l) → Calls Tryd.prog 19 #[.pointer (some ⟨g1, 0, none⟩)] W fun e w' => e = .returned (.int .i64 ((feedH H l).len : Int)) ∧ w' = W from fun W G J v h => by rw [← HW1.out.told.2.2]; exact len_any g1 _ W h.taken)
        have HSee := hid (show ∀ (U : World) {G : Nat → Prop}, FS w U #[.bool r, .int .i64 m, .slice (some ⟨g, o, none⟩) n c] g1 g5 G H (.slice vp vn vc) (feedP s l) → Seven U g5 (.bool H.resp) (.int .i64 H.most) (.slice vp vn vc) (.string (str H.line)) (.int .i64 (H.len : Int)) (.bool H.done) (.int .i64 (H.err : Int)) ∧ U.cell? ⟨w.heap.size, 2, none⟩ = some (.slice (some ⟨g, o, none⟩) n c) ∧ U.cell? ⟨g, o + i, none⟩ = some (.slice q L cc) from fun U G h => ⟨h.seven, h.three.a2, cell_keep h.low HC0.out⟩)
        unfold headV at HRf
        obtain ⟨H1, hH1⟩ : ∃ H1, feedH H l = H1 := ⟨_, rfl⟩
        obtain ⟨s1, hs1⟩ : ∃ s1, feedP s l = s1 := ⟨_, rfl⟩
        obtain ⟨N, hNN⟩ : ∃ N, feedHN H l = N := ⟨_, rfl⟩
        rw [hH1, hNN, hs1] at HFd
        rw [hH1, hNN] at HRf
        rw [hH1] at HNm
        rw [hH1, hs1] at HW1 HLn2
        rw [hs1] at HSee
        obtain ⟨V, hV⟩ : ∃ V, errOf H1.err = V := ⟨_, rfl⟩
        rw [hV] at HFd HNm
        clear hH1 hs1 hNN hV hL hc0 hA0
        cases q with
        | none =>
          have Hl0 := hid (show l = [] from by
            cases l with
            | nil => rfl
            | cons y r => obtain ⟨g, o, e, _⟩ := HA0.out 0 y rfl; cases e)
          obtain rfl : L = 0 := by rw [← HLn.out, Hl0.out]; rfl
          have HBn := hid (Below.refl wr.heap.size wr)
          have HAn := hid (show ∀ W : World, ArgAt W none l from fun W i y hi => by rw [Hl0.out] at hi; simp at hi)
          have HGn := hid (show ∀ a : Addr, (none : Option Addr) = some a → wr.heap.size ≤ a.block from fun a e => by cases e)
          go_wp2_with ((go_at_call 17; (with_reducible refine (HFd.out _ none 0 (HBn.out) (HAn.out _) (HGn.out)).mono ?_); rintro e w2 ⟨rfl, G, h2⟩; have H2 := hid h2; clear h2))
          clear b0 b1 b2 hc
          obtain ⟨U, hU⟩ : ∃ U, U = w2.drew := ⟨_, rfl⟩
          have HSU := hid (show FS w U #[.bool r, .int .i64 m, .slice (some ⟨g, o, none⟩) n c] g1 g5 G H (.slice vp vn vc) s1 from by rw [hU]; exact H2.out.drew)
          refine wp_region_noPanic ?_
          refine any_begin 13 (by kernel_rfl) (by kernel_rfl) ?_
          rw [← hU]
          clear hU
          refine late_begin (fun U => Seven U g5 (.bool H.resp) (.int .i64 H.most) (.slice vp vn vc) (.string (str H.line)) (.int .i64 (H.len : Int)) (.bool H.done) (.int .i64 (H.err : Int)) ∧ U.cell? ⟨w.heap.size, 2, none⟩ = some (.slice (some ⟨g, o, none⟩) n c) ∧ U.cell? ⟨g, o + i, none⟩ = some (.slice none 0 cc)) (fun _ => false) (HSee.out _ HSU.out) (fun hS => ?_)
          refine late_take (i := 0) (some 84) rfl rfl (by kernel_rfl) (by kernel_rfl) (by kernel_rfl) (by kernel_rfl) (by kernel_rfl) (fun _ _ _ h => h) (by rfl) (v := ?v0n) ?hy0n hS ?rest0n
          case hy0n => intro w0 hSw; (try dsimp only at hSw); obtain ⟨⟨q0, q1, q2, q3, q4, q5, q6, _⟩, q7, q8⟩ := hSw; go_simp; try with_reducible rfl
          simp only [Act.put, List.setIfInBounds_toArray, List.set_cons_zero, List.set_cons_succ]
          refine late_take (i := 1) (some 85) rfl rfl (by kernel_rfl) (by kernel_rfl) (by kernel_rfl) (by kernel_rfl) (by kernel_rfl) (fun _ _ _ h => h) (by rfl) (v := ?v1n) ?hy1n hS ?rest1n
          case hy1n => intro w0 hSw; (try dsimp only at hSw); obtain ⟨⟨q0, q1, q2, q3, q4, q5, q6, _⟩, q7, q8⟩ := hSw; go_simp; try with_reducible rfl
          simp only [Act.put, List.setIfInBounds_toArray, List.set_cons_zero, List.set_cons_succ]
          refine late_take (i := 2) (some 86) rfl rfl (by kernel_rfl) (by kernel_rfl) (by kernel_rfl) (by kernel_rfl) (by kernel_rfl) (fun _ _ _ h => h) (by rfl) (v := ?v2n) ?hy2n hS ?rest2n
          case hy2n => intro w0 hSw; (try dsimp only at hSw); obtain ⟨⟨q0, q1, q2, q3, q4, q5, q6, _⟩, q7, q8⟩ := hSw; go_simp; try with_reducible rfl
          simp only [Act.put, List.setIfInBounds_toArray, List.set_cons_zero, List.set_cons_succ]
          refine late_take (i := 3) (some 87) rfl rfl (by kernel_rfl) (by kernel_rfl) (by kernel_rfl) (by kernel_rfl) (by kernel_rfl) (fun _ _ _ h => h) (by rfl) (v := ?v3n) ?hy3n hS ?rest3n
          case hy3n => intro w0 hSw; (try dsimp only at hSw); obtain ⟨⟨q0, q1, q2, q3, q4, q5, q6, _⟩, q7, q8⟩ := hSw; go_simp; try with_reducible rfl
          simp only [Act.put, List.setIfInBounds_toArray, List.set_cons_zero, List.set_cons_succ]
          refine late_take (i := 4) (some 88) rfl rfl (by kernel_rfl) (by kernel_rfl) (by kernel_rfl) (by kernel_rfl) (by kernel_rfl) (fun _ _ _ h => h) (by rfl) (v := ?v4n) ?hy4n hS ?rest4n
          case hy4n => intro w0 hSw; (try dsimp only at hSw); obtain ⟨⟨q0, q1, q2, q3, q4, q5, q6, _⟩, q7, q8⟩ := hSw; go_simp; try with_reducible rfl
          simp only [Act.put, List.setIfInBounds_toArray, List.set_cons_zero, List.set_cons_succ]
          refine late_take (i := 5) (some 89) rfl rfl (by kernel_rfl) (by kernel_rfl) (by kernel_rfl) (by kernel_rfl) (by kernel_rfl) (fun _ _ _ h => h) (by rfl) (v := ?v5n) ?hy5n hS ?rest5n
          case hy5n => intro w0 hSw; (try dsimp only at hSw); obtain ⟨⟨q0, q1, q2, q3, q4, q5, q6, _⟩, q7, q8⟩ := hSw; go_simp; try with_reducible rfl
          simp only [Act.put, List.setIfInBounds_toArray, List.set_cons_zero, List.set_cons_succ]
          refine wpAnyD_two (i := 6) (j := 10) (by kernel_rfl) rfl rfl (fun K hK => ?_) (fun K hK => ?_)
          · skip
            go_simp
            go_at_call 18
            refine (HRf.out _ HSU.out.low HSU.out.own).mono ?_
            rintro e w4 ⟨v4, rfl, ho4, hb4⟩
            obtain ⟨p4, c4, hv4⟩ := own_slice ho4
            subst hv4
            obtain ⟨x4, hx4⟩ : ∃ x4, H1.lines.length = x4 := ⟨_, rfl⟩
            rw [hx4] at ho4 ⊢
            have H4 := hid (HSU.out.next hb4)
            have HO4 := hid ho4
            have hS4 := HSee.out _ H4.out
            refine hK _ _ ⟨fun _ => hS4, ?_⟩
            clear hK K hb4 ho4 hx4
            refine late_take (i := 7) (some 83) rfl rfl (by kernel_rfl) (by kernel_rfl) (by kernel_rfl) (by kernel_rfl) (by kernel_rfl) (fun _ _ _ h => h) (by rfl) (v := ?v7nA) ?hy7nA hS4 ?rest7nA
            case hy7nA => intro w0 hSw; (try dsimp only at hSw); obtain ⟨⟨q0, q1, q2, q3, q4, q5, q6, _⟩, q7, q8⟩ := hSw; go_simp; try with_reducible rfl
            simp only [Act.put, List.setIfInBounds_toArray, List.set_cons_zero, List.set_cons_succ]
            refine late_take (i := 8) (some 91) rfl rfl (by kernel_rfl) (by kernel_rfl) (by kernel_rfl) (by kernel_rfl) (by kernel_rfl) (fun _ _ _ h => h) (by rfl) (v := ?v8nA) ?hy8nA hS4 ?rest8nA
            case hy8nA => intro w0 hSw; (try dsimp only at hSw); obtain ⟨⟨q0, q1, q2, q3, q4, q5, q6, _⟩, q7, q8⟩ := hSw; go_simp; try with_reducible rfl
            simp only [Act.put, List.setIfInBounds_toArray, List.set_cons_zero, List.set_cons_succ]
            refine late_take (i := 9) (some 92) rfl rfl (by kernel_rfl) (by kernel_rfl) (by kernel_rfl) (by kernel_rfl) (by kernel_rfl) (fun _ _ _ h => h) (by rfl) (v := ?v9nA) ?hy9nA hS4 ?rest9nA
            case hy9nA => intro w0 hSw; (try dsimp only at hSw); obtain ⟨⟨q0, q1, q2, q3, q4, q5, q6, _⟩, q7, q8⟩ := hSw; go_simp; try with_reducible rfl
            simp only [Act.put, List.setIfInBounds_toArray, List.set_cons_zero, List.set_cons_succ]
            refine wpAnyD_one (i := 10) (by kernel_rfl) rfl (fun K hK => ?_)
            go_simp
            refine hK _ _ ⟨fun _ => HSee.out _ (H4.out.next (below_new w4 (.cells #[.bool false, .int .i64 0, .slice none 0 0, .string ⟨#[]⟩, .int .i64 0, .bool false, .int .i64 0] 32 (0, 0)))), ?_⟩
            clear hK K
            obtain ⟨X, hX⟩ : ∃ X, X = w4.alloc (.cells #[.bool false, .int .i64 0, .slice none 0 0, .string ⟨#[]⟩, .int .i64 0, .bool false, .int .i64 0] 32 (0, 0)) := ⟨_, rfl⟩
            obtain ⟨g12, hg12⟩ : ∃ g12, g12 = w4.heap.size := ⟨_, rfl⟩
            have HX := hid (show FS w X #[.bool r, .int .i64 m, .slice (some ⟨g, o, none⟩) n c] g1 g5 G H (.slice vp vn vc) s1 from by rw [hX]; exact H4.out.next (below_new w4 _))
            have HOx := hid (show OwnS X 0 (.slice p4 x4 c4) H1.lines from by rw [hX]; exact HO4.out.keep (below_new w4 _))
            have HZ := hid (show X.heap[g12]? = some (.cells #[.bool false, .int .i64 0, .slice none 0 0, .string ⟨#[]⟩, .int .i64 0, .bool false, .int .i64 0] 32 (0, 0)) from by rw [hX, hg12]; exact heap_alloc_new w4 _)
            have HG := hid (show w.heap.size < g12 ∧ g12 ≠ g5 ∧ ¬ G g12 from by rw [hg12]; exact ⟨lt_of_heap H4.out.box, fun e => Nat.lt_irrefl _ (by have := lt_of_heap H4.out.hd; rw [← e] at this; exact this), fun h => Nat.lt_irrefl _ (H4.out.f _ h).2⟩)
            rw [← hX]
            rw [← hg12]
            clear hX hg12 hS hS4
            obtain ⟨z0, z1, z2, z3, z4, z5, z6, zz⟩ := seven HZ.out
            have zz0 := zz 0; have zz1 := zz 1; have zz2 := zz 2; have zz3 := zz 3; have zz4 := zz 4; have zz5 := zz 5; have zz6 := zz 6
            clear zz
            refine wpAnyD_one (i := 11) (by kernel_rfl) rfl (fun K hK => ?_)
            go_simp
            have h3 : FS w (((((((X.setCell ⟨g12, 0, none⟩ (.bool H1.resp)).setCell ⟨g12, 1, none⟩ (.int .i64 H1.most)).setCell ⟨g12, 2, none⟩ (.slice p4 x4 c4)).setCell ⟨g12, 3, none⟩ (.string (str H1.line))).setCell ⟨g12, 4, none⟩ (.int .i64 (H1.len : Int))).setCell ⟨g12, 5, none⟩ (.bool H1.done)).setCell ⟨g12, 6, none⟩ (.int .i64 (H1.err : Int))) #[.bool r, .int .i64 m, .slice (some ⟨g, o, none⟩) n c] g1 g5 G H (.slice vp vn vc) s1 := HX.out.aside HZ.out hd_ne HG.out.1 HG.out.2.1 HG.out.2.2 (only7 (F := fun k => k = g12) rfl _ _ _ _ _ _ _)
            refine hK _ _ ⟨fun _ => HSee.out _ h3, ?_⟩
            clear hK K h3 z0 z1 z2 z3 z4 z5 z6 zz0 zz1 zz2 zz3 zz4 zz5 zz6
            obtain ⟨X3, hX3⟩ : ∃ X3, X3 = (((((((X.setCell ⟨g12, 0, none⟩ (.bool H1.resp)).setCell ⟨g12, 1, none⟩ (.int .i64 H1.most)).setCell ⟨g12, 2, none⟩ (.slice p4 x4 c4)).setCell ⟨g12, 3, none⟩ (.string (str H1.line))).setCell ⟨g12, 4, none⟩ (.int .i64 (H1.len : Int))).setCell ⟨g12, 5, none⟩ (.bool H1.done)).setCell ⟨g12, 6, none⟩ (.int .i64 (H1.err : Int))) := ⟨_, rfl⟩
            have H3 := hid (show FS w X3 #[.bool r, .int .i64 m, .slice (some ⟨g, o, none⟩) n c] g1 g5 G H (.slice vp vn vc) s1 from by rw [hX3]; exact HX.out.aside HZ.out hd_ne HG.out.1 HG.out.2.1 HG.out.2.2 (only7 (F := fun k => k = g12) rfl _ _ _ _ _ _ _))
            have HO3 := hid (show OwnS X3 0 (.slice p4 x4 c4) H1.lines from by rw [hX3]; exact OwnS.aside7 HOx.out HZ.out hd_ne _ _ _ _ _ _ _)
            have HZ3 := hid (show X3.heap[g12]? = some (.cells #[.bool H1.resp, .int .i64 H1.most, .slice p4 x4 c4, .string (str H1.line), .int .i64 (H1.len : Int), .bool H1.done, .int .i64 (H1.err : Int)] 32 (0, 0)) from by rw [hX3]; exact put7 HZ.out _ _ _ _ _ _ _)
            rw [← hX3]
            clear hX3
            have hS3 := HSee.out _ H3.out
            refine late_take (i := 12) (some 13) rfl rfl (by kernel_rfl) (by kernel_rfl) (by kernel_rfl) (by kernel_rfl) (by kernel_rfl) (fun _ _ _ h => h) (by rfl) (v := ?v12nAl) ?hy12nAl hS3 ?rest12nAl
            case hy12nAl => intro w0 hSw; (try dsimp only at hSw); obtain ⟨⟨q0, q1, q2, q3, q4, q5, q6, _⟩, q7, q8⟩ := hSw; go_simp; try with_reducible rfl
            simp only [Act.put, List.setIfInBounds_toArray, List.set_cons_zero, List.set_cons_succ]
            clear hS3
            refine late_done (by kernel_rfl) ?_ _
            refine NoPanic.normal ?_
            obtain ⟨z0, z1, z2, z3, z4, z5, z6, _⟩ := seven HZ3.out
            obtain ⟨y0, y1, y2, y3, y4, y5, y6, yz⟩ := FS.seven H3.out
            have yz0 := yz 0; have yz1 := yz 1; have yz2 := yz 2; have yz3 := yz 3; have yz4 := yz 4; have yz5 := yz 5; have yz6 := yz 6
            clear yz
            go_wp2
            clear z0 z1 z2 z3 z4 z5 z6 y0 y1 y2 y3 y4 y5 y6 yz0 yz1 yz2 yz3 yz4 yz5 yz6
            obtain ⟨X4, hX4⟩ : ∃ X4, X4 = ((((((((X3.setCell ⟨g5, 0, none⟩ (.bool H1.resp)).setCell ⟨g5, 1, none⟩ (.int .i64 H1.most)).setCell ⟨g5, 2, none⟩ (.slice p4 x4 c4)).setCell ⟨g5, 3, none⟩ (.string (str H1.line))).setCell ⟨g5, 4, none⟩ (.int .i64 (H1.len : Int))).setCell ⟨g5, 5, none⟩ (.bool H1.done)).setCell ⟨g5, 6, none⟩ (.int .i64 (H1.err : Int)))).drew := ⟨_, rfl⟩
            have H5 := hid (show FS w X4 #[.bool r, .int .i64 m, .slice (some ⟨g, o, none⟩) n c] g1 g5 G H1 (.slice p4 x4 c4) s1 from by rw [hX4]; exact (H3.out.put (only7 (F := fun k => k = g5) rfl _ _ _ _ _ _ _) (put7 H3.out.hd _ _ _ _ _ _ _) (OwnS.aside7 HO3.out H3.out.hd hd_ne _ _ _ _ _ _ _)).drew)
            refine wp_region_noPanic ?_
            refine any_begin 23 (by kernel_rfl) (by kernel_rfl) ?_
            rw [← hX4]
            clear hX4
            refine late_begin (fun U => Seven U g5 (.bool H1.resp) (.int .i64 H1.most) (.slice p4 x4 c4) (.string (str H1.line)) (.int .i64 (H1.len : Int)) (.bool H1.done) (.int .i64 (H1.err : Int))) (fun _ => false) (FS.seven H5.out) (fun hS => ?_)
            refine late_take (i := 0) (some 94) rfl rfl (by kernel_rfl) (by kernel_rfl) (by kernel_rfl) (by kernel_rfl) (by kernel_rfl) (fun _ _ _ h => h) (by rfl) (v := ?v0nAz) ?hy0nAz hS ?rest0nAz
            case hy0nAz => intro w0 hSw; (try dsimp only at hSw); obtain ⟨q0, q1, q2, q3, q4, q5, q6, _⟩ := hSw; go_simp; try with_reducible rfl
            simp only [Act.put, List.setIfInBounds_toArray, List.set_cons_zero, List.set_cons_succ]
            refine late_take (i := 1) (some 95) rfl rfl (by kernel_rfl) (by kernel_rfl) (by kernel_rfl) (by kernel_rfl) (by kernel_rfl) (fun _ _ _ h => h) (by rfl) (v := ?v1nAz) ?hy1nAz hS ?rest1nAz
            case hy1nAz => intro w0 hSw; (try dsimp only at hSw); obtain ⟨q0, q1, q2, q3, q4, q5, q6, _⟩ := hSw; go_simp; try with_reducible rfl
            simp only [Act.put, List.setIfInBounds_toArray, List.set_cons_zero, List.set_cons_succ]
            refine late_take (i := 2) (some 96) rfl rfl (by kernel_rfl) (by kernel_rfl) (by kernel_rfl) (by kernel_rfl) (by kernel_rfl) (fun _ _ _ h => h) (by rfl) (v := ?v2nAz) ?hy2nAz hS ?rest2nAz
            case hy2nAz => intro w0 hSw; (try dsimp only at hSw); obtain ⟨q0, q1, q2, q3, q4, q5, q6, _⟩ := hSw; go_simp; try with_reducible rfl
            simp only [Act.put, List.setIfInBounds_toArray, List.set_cons_zero, List.set_cons_succ]
            refine late_take (i := 3) (some 97) rfl rfl (by kernel_rfl) (by kernel_rfl) (by kernel_rfl) (by kernel_rfl) (by kernel_rfl) (fun _ _ _ h => h) (by rfl) (v := ?v3nAz) ?hy3nAz hS ?rest3nAz
            case hy3nAz => intro w0 hSw; (try dsimp only at hSw); obtain ⟨q0, q1, q2, q3, q4, q5, q6, _⟩ := hSw; go_simp; try with_reducible rfl
            simp only [Act.put, List.setIfInBounds_toArray, List.set_cons_zero, List.set_cons_succ]
            refine late_take (i := 4) (some 98) rfl rfl (by kernel_rfl) (by kernel_rfl) (by kernel_rfl) (by kernel_rfl) (by kernel_rfl) (fun _ _ _ h => h) (by rfl) (v := ?v4nAz) ?hy4nAz hS ?rest4nAz
            case hy4nAz => intro w0 hSw; (try dsimp only at hSw); obtain ⟨q0, q1, q2, q3, q4, q5, q6, _⟩ := hSw; go_simp; try with_reducible rfl
            simp only [Act.put, List.setIfInBounds_toArray, List.set_cons_zero, List.set_cons_succ]
            refine late_take (i := 5) (some 99) rfl rfl (by kernel_rfl) (by kernel_rfl) (by kernel_rfl) (by kernel_rfl) (by kernel_rfl) (fun _ _ _ h => h) (by rfl) (v := ?v5nAz) ?hy5nAz hS ?rest5nAz
            case hy5nAz => intro w0 hSw; (try dsimp only at hSw); obtain ⟨q0, q1, q2, q3, q4, q5, q6, _⟩ := hSw; go_simp; try with_reducible rfl
            simp only [Act.put, List.setIfInBounds_toArray, List.set_cons_zero, List.set_cons_succ]
            refine late_take (i := 6) (some 100) rfl rfl (by kernel_rfl) (by kernel_rfl) (by kernel_rfl) (by kernel_rfl) (by kernel_rfl) (fun _ _ _ h => h) (by rfl) (v := ?v6nAz) ?hy6nAz hS ?rest6nAz
            case hy6nAz => intro w0 hSw; (try dsimp only at hSw); obtain ⟨q0, q1, q2, q3, q4, q5, q6, _⟩ := hSw; go_simp; try with_reducible rfl
            simp only [Act.put, List.setIfInBounds_toArray, List.set_cons_zero, List.set_cons_succ]
            refine late_take (i := 7) (some 101) rfl rfl (by kernel_rfl) (by kernel_rfl) (by kernel_rfl) (by kernel_rfl) (by kernel_rfl) (fun _ _ _ h => h) (by rfl) (v := ?v7nAz) ?hy7nAz hS ?rest7nAz
            case hy7nAz => intro w0 hSw; (try dsimp only at hSw); obtain ⟨q0, q1, q2, q3, q4, q5, q6, _⟩ := hSw; go_simp; try with_reducible rfl
            simp only [Act.put, List.setIfInBounds_toArray, List.set_cons_zero, List.set_cons_succ]
            refine late_take (i := 8) (some 102) rfl rfl (by kernel_rfl) (by kernel_rfl) (by kernel_rfl) (by kernel_rfl) (by kernel_rfl) (fun _ _ _ h => h) (by rfl) (v := ?v8nAz) ?hy8nAz hS ?rest8nAz
            case hy8nAz => intro w0 hSw; (try dsimp only at hSw); obtain ⟨q0, q1, q2, q3, q4, q5, q6, _⟩ := hSw; go_simp; try with_reducible rfl
            simp only [Act.put, List.setIfInBounds_toArray, List.set_cons_zero, List.set_cons_succ]
            refine late_take (i := 9) (some 103) rfl rfl (by kernel_rfl) (by kernel_rfl) (by kernel_rfl) (by kernel_rfl) (by kernel_rfl) (fun _ _ _ h => h) (by rfl) (v := ?v9nAz) ?hy9nAz hS ?rest9nAz
            case hy9nAz => intro w0 hSw; (try dsimp only at hSw); obtain ⟨q0, q1, q2, q3, q4, q5, q6, _⟩ := hSw; go_simp; try with_reducible rfl
            simp only [Act.put, List.setIfInBounds_toArray, List.set_cons_zero, List.set_cons_succ]
            refine late_take (i := 10) (some 104) rfl rfl (by kernel_rfl) (by kernel_rfl) (by kernel_rfl) (by kernel_rfl) (by kernel_rfl) (fun _ _ _ h => h) (by rfl) (v := ?v10nAz) ?hy10nAz hS ?rest10nAz
            case hy10nAz => intro w0 hSw; (try dsimp only at hSw); obtain ⟨q0, q1, q2, q3, q4, q5, q6, _⟩ := hSw; go_simp; try with_reducible rfl
            simp only [Act.put, List.setIfInBounds_toArray, List.set_cons_zero, List.set_cons_succ]
            refine late_take (i := 12) (some 106) rfl rfl (by kernel_rfl) (by kernel_rfl) (by kernel_rfl) (by kernel_rfl) (by kernel_rfl) (fun _ _ _ h => h) (by rfl) (v := ?v12nAz) ?hy12nAz hS ?rest12nAz
            case hy12nAz => intro w0 hSw; (try dsimp only at hSw); obtain ⟨q0, q1, q2, q3, q4, q5, q6, _⟩ := hSw; go_simp; try with_reducible rfl
            simp only [Act.put, List.setIfInBounds_toArray, List.set_cons_zero, List.set_cons_succ]
            refine late_take (i := 13) (some 107) rfl rfl (by kernel_rfl) (by kernel_rfl) (by kernel_rfl) (by kernel_rfl) (by kernel_rfl) (fun _ _ _ h => h) (by rfl) (v := ?v13nAz) ?hy13nAz hS ?rest13nAz
            case hy13nAz => intro w0 hSw; (try dsimp only at hSw); obtain ⟨q0, q1, q2, q3, q4, q5, q6, _⟩ := hSw; go_simp; try with_reducible rfl
            simp only [Act.put, List.setIfInBounds_toArray, List.set_cons_zero, List.set_cons_succ]
            refine wpAnyD_one (i := 11) (by kernel_rfl) rfl (fun K hK => ?_)
            go_simp
            go_at_call 12
            refine (HNm.out _ H5.out.low).mono ?_
            rintro e w6 ⟨rfl, hb6⟩
            have H6 := hid (H5.out.next hb6)
            have hS6 := FS.seven H6.out
            refine hK _ _ ⟨fun _ => hS6, ?_⟩
            clear hK K hb6 hS
            refine late_take (i := 14) (some 108) rfl rfl (by kernel_rfl) (by kernel_rfl) (by kernel_rfl) (by kernel_rfl) (by kernel_rfl) (fun _ _ _ h => h) (by rfl) (v := ?v14nAz) ?hy14nAz hS6 ?rest14nAz
            case hy14nAz => intro w0 hSw; (try dsimp only at hSw); obtain ⟨q0, q1, q2, q3, q4, q5, q6, _⟩ := hSw; go_simp; try with_reducible rfl
            simp only [Act.put, List.setIfInBounds_toArray, List.set_cons_zero, List.set_cons_succ]
            refine late_take (i := 15) (some 109) rfl rfl (by kernel_rfl) (by kernel_rfl) (by kernel_rfl) (by kernel_rfl) (by kernel_rfl) (fun _ _ _ h => h) (by rfl) (v := ?v15nAz) ?hy15nAz hS6 ?rest15nAz
            case hy15nAz => intro w0 hSw; (try dsimp only at hSw); obtain ⟨q0, q1, q2, q3, q4, q5, q6, _⟩ := hSw; go_simp; try with_reducible rfl
            simp only [Act.put, List.setIfInBounds_toArray, List.set_cons_zero, List.set_cons_succ]
            refine late_take (i := 16) (some 110) rfl rfl (by kernel_rfl) (by kernel_rfl) (by kernel_rfl) (by kernel_rfl) (by kernel_rfl) (fun _ _ _ h => h) (by rfl) (v := ?v16nAz) ?hy16nAz hS6 ?rest16nAz
            case hy16nAz => intro w0 hSw; (try dsimp only at hSw); obtain ⟨q0, q1, q2, q3, q4, q5, q6, _⟩ := hSw; go_simp; try with_reducible rfl
            simp only [Act.put, List.setIfInBounds_toArray, List.set_cons_zero, List.set_cons_succ]
            refine late_take (i := 17) (some 111) rfl rfl (by kernel_rfl) (by kernel_rfl) (by kernel_rfl) (by kernel_rfl) (by kernel_rfl) (fun _ _ _ h => h) (by rfl) (v := ?v17nAz) ?hy17nAz hS6 ?rest17nAz
            case hy17nAz => intro w0 hSw; (try dsimp only at hSw); obtain ⟨q0, q1, q2, q3, q4, q5, q6, _⟩ := hSw; go_simp; try with_reducible rfl
            simp only [Act.put, List.setIfInBounds_toArray, List.set_cons_zero, List.set_cons_succ]
            refine late_take (i := 19) (some 113) rfl rfl (by kernel_rfl) (by kernel_rfl) (by kernel_rfl) (by kernel_rfl) (by kernel_rfl) (fun _ _ _ h => h) (by rfl) (v := ?v19nAz) ?hy19nAz hS6 ?rest19nAz
            case hy19nAz => intro w0 hSw; (try dsimp only at hSw); obtain ⟨q0, q1, q2, q3, q4, q5, q6, _⟩ := hSw; go_simp; try with_reducible rfl
            simp only [Act.put, List.setIfInBounds_toArray, List.set_cons_zero, List.set_cons_succ]
            refine late_take (i := 20) (some 114) rfl rfl (by kernel_rfl) (by kernel_rfl) (by kernel_rfl) (by kernel_rfl) (by kernel_rfl) (fun _ _ _ h => h) (by rfl) (v := ?v20nAz) ?hy20nAz hS6 ?rest20nAz
            case hy20nAz => intro w0 hSw; (try dsimp only at hSw); obtain ⟨q0, q1, q2, q3, q4, q5, q6, _⟩ := hSw; go_simp; try with_reducible rfl
            simp only [Act.put, List.setIfInBounds_toArray, List.set_cons_zero, List.set_cons_succ]
            refine wpAnyD_one (i := 18) (by kernel_rfl) rfl (fun K hK => ?_)
            go_simp
            go_at_call 19
            refine (HLn2.out _ _ _ _ H6.out).mono ?_
            rintro e w7 ⟨rfl, hw7⟩
            subst w7
            refine hK _ _ ⟨fun _ => hS6, ?_⟩
            clear hK K
            refine late_take (i := 21) (some 115) rfl rfl (by kernel_rfl) (by kernel_rfl) (by kernel_rfl) (by kernel_rfl) (by kernel_rfl) (fun _ _ _ h => h) (by rfl) (v := ?v21nAz) ?hy21nAz hS6 ?rest21nAz
            case hy21nAz => intro w0 hSw; (try dsimp only at hSw); obtain ⟨q0, q1, q2, q3, q4, q5, q6, _⟩ := hSw; go_simp; try with_reducible rfl
            simp only [Act.put, List.setIfInBounds_toArray, List.set_cons_zero, List.set_cons_succ]
            refine late_take (i := 22) (some 116) rfl rfl (by kernel_rfl) (by kernel_rfl) (by kernel_rfl) (by kernel_rfl) (by kernel_rfl) (fun _ _ _ h => h) (by rfl) (v := ?v22nAz) ?hy22nAz hS6 ?rest22nAz
            case hy22nAz => intro w0 hSw; (try dsimp only at hSw); obtain ⟨q0, q1, q2, q3, q4, q5, q6, _⟩ := hSw; go_simp; try with_reducible rfl
            simp only [Act.put, List.setIfInBounds_toArray, List.set_cons_zero, List.set_cons_succ]
            refine late_done (by kernel_rfl) ?_ _
            refine NoPanic.normal ?_
            have hwi : wrap64 ((i : Int) + 1) = (i : Int) + 1 := by unfold wrap64; omega
            go_wp2
            go_roundg (n - (i + 1) + 1)
            case measure => omega
            case rel => exact ⟨i + 1, G, H1, .slice p4 x4 c4, s1, (by (try rw [hwi]); push_cast; rfl), by omega, rfl, H6.out, HW1.out⟩
          · skip
            go_simp
            have hA0 := HSU.out.next (below_new U (.cells #[.bool false, .int .i64 0, .slice none 0 0, .string ⟨#[]⟩, .int .i64 0, .bool false, .int .i64 0] 32 (0, 0)))
            refine hK _ _ ⟨fun _ => HSee.out _ hA0, ?_⟩
            clear hK K
            obtain ⟨X0, hX0⟩ : ∃ X0, X0 = U.alloc (.cells #[.bool false, .int .i64 0, .slice none 0 0, .string ⟨#[]⟩, .int .i64 0, .bool false, .int .i64 0] 32 (0, 0)) := ⟨_, rfl⟩
            obtain ⟨g12, hg12⟩ : ∃ g12, g12 = U.heap.size := ⟨_, rfl⟩
            have HX0 := hid (show FS w X0 #[.bool r, .int .i64 m, .slice (some ⟨g, o, none⟩) n c] g1 g5 G H (.slice vp vn vc) s1 from by rw [hX0]; exact hA0)
            have HZ0 := hid (show X0.heap[g12]? = some (.cells #[.bool false, .int .i64 0, .slice none 0 0, .string ⟨#[]⟩, .int .i64 0, .bool false, .int .i64 0] 32 (0, 0)) from by rw [hX0, hg12]; exact heap_alloc_new U _)
            have HG := hid (show w.heap.size < g12 ∧ g12 ≠ g5 ∧ ¬ G g12 from by rw [hg12]; exact ⟨lt_of_heap HSU.out.box, fun e => Nat.lt_irrefl _ (by have := lt_of_heap HSU.out.hd; rw [← e] at this; exact this), fun h => Nat.lt_irrefl _ (HSU.out.f _ h).2⟩)
            rw [← hX0]
            rw [← hg12]
            clear hX0 hg12 hS hA0
            refine wpAnyD_one (i := 6) (by kernel_rfl) rfl (fun K hK => ?_)
            go_simp
            go_at_call 18
            refine (HRf.out _ HX0.out.low HX0.out.own).mono ?_
            rintro e X ⟨v4, rfl, ho4, hb4⟩
            obtain ⟨p4, c4, hv4⟩ := own_slice ho4
            subst hv4
            obtain ⟨x4, hx4⟩ : ∃ x4, H1.lines.length = x4 := ⟨_, rfl⟩
            rw [hx4] at ho4 ⊢
            have HX := hid (HX0.out.next hb4)
            have HOx := hid ho4
            have HZ := hid ((hb4.block _ (lt_of_heap HZ0.out)).trans HZ0.out)
            have hS4 := HSee.out _ HX.out
            refine hK _ _ ⟨fun _ => hS4, ?_⟩
            clear hK K hb4 ho4 hx4
            refine late_take (i := 7) (some 83) rfl rfl (by kernel_rfl) (by kernel_rfl) (by kernel_rfl) (by kernel_rfl) (by kernel_rfl) (fun _ _ _ h => h) (by rfl) (v := ?v7nB) ?hy7nB hS4 ?rest7nB
            case hy7nB => intro w0 hSw; (try dsimp only at hSw); obtain ⟨⟨q0, q1, q2, q3, q4, q5, q6, _⟩, q7, q8⟩ := hSw; go_simp; try with_reducible rfl
            simp only [Act.put, List.setIfInBounds_toArray, List.set_cons_zero, List.set_cons_succ]
            refine late_take (i := 8) (some 91) rfl rfl (by kernel_rfl) (by kernel_rfl) (by kernel_rfl) (by kernel_rfl) (by kernel_rfl) (fun _ _ _ h => h) (by rfl) (v := ?v8nB) ?hy8nB hS4 ?rest8nB
            case hy8nB => intro w0 hSw; (try dsimp only at hSw); obtain ⟨⟨q0, q1, q2, q3, q4, q5, q6, _⟩, q7, q8⟩ := hSw; go_simp; try with_reducible rfl
            simp only [Act.put, List.setIfInBounds_toArray, List.set_cons_zero, List.set_cons_succ]
            refine late_take (i := 9) (some 92) rfl rfl (by kernel_rfl) (by kernel_rfl) (by kernel_rfl) (by kernel_rfl) (by kernel_rfl) (fun _ _ _ h => h) (by rfl) (v := ?v9nB) ?hy9nB hS4 ?rest9nB
            case hy9nB => intro w0 hSw; (try dsimp only at hSw); obtain ⟨⟨q0, q1, q2, q3, q4, q5, q6, _⟩, q7, q8⟩ := hSw; go_simp; try with_reducible rfl
            simp only [Act.put, List.setIfInBounds_toArray, List.set_cons_zero, List.set_cons_succ]
            clear hS4
            obtain ⟨z0, z1, z2, z3, z4, z5, z6, zz⟩ := seven HZ.out
            have zz0 := zz 0; have zz1 := zz 1; have zz2 := zz 2; have zz3 := zz 3; have zz4 := zz 4; have zz5 := zz 5; have zz6 := zz 6
            clear zz
            refine wpAnyD_one (i := 11) (by kernel_rfl) rfl (fun K hK => ?_)
            go_simp
            have h3 : FS w (((((((X.setCell ⟨g12, 0, none⟩ (.bool H1.resp)).setCell ⟨g12, 1, none⟩ (.int .i64 H1.most)).setCell ⟨g12, 2, none⟩ (.slice p4 x4 c4)).setCell ⟨g12, 3, none⟩ (.string (str H1.line))).setCell ⟨g12, 4, none⟩ (.int .i64 (H1.len : Int))).setCell ⟨g12, 5, none⟩ (.bool H1.done)).setCell ⟨g12, 6, none⟩ (.int .i64 (H1.err : Int))) #[.bool r, .int .i64 m, .slice (some ⟨g, o, none⟩) n c] g1 g5 G H (.slice vp vn vc) s1 := HX.out.aside HZ.out hd_ne HG.out.1 HG.out.2.1 HG.out.2.2 (only7 (F := fun k => k = g12) rfl _ _ _ _ _ _ _)
            refine hK _ _ ⟨fun _ => HSee.out _ h3, ?_⟩
            clear hK K h3 z0 z1 z2 z3 z4 z5 z6 zz0 zz1 zz2 zz3 zz4 zz5 zz6
            obtain ⟨X3, hX3⟩ : ∃ X3, X3 = (((((((X.setCell ⟨g12, 0, none⟩ (.bool H1.resp)).setCell ⟨g12, 1, none⟩ (.int .i64 H1.most)).setCell ⟨g12, 2, none⟩ (.slice p4 x4 c4)).setCell ⟨g12, 3, none⟩ (.string (str H1.line))).setCell ⟨g12, 4, none⟩ (.int .i64 (H1.len : Int))).setCell ⟨g12, 5, none⟩ (.bool H1.done)).setCell ⟨g12, 6, none⟩ (.int .i64 (H1.err : Int))) := ⟨_, rfl⟩
            have H3 := hid (show FS w X3 #[.bool r, .int .i64 m, .slice (some ⟨g, o, none⟩) n c] g1 g5 G H (.slice vp vn vc) s1 from by rw [hX3]; exact HX.out.aside HZ.out hd_ne HG.out.1 HG.out.2.1 HG.out.2.2 (only7 (F := fun k => k = g12) rfl _ _ _ _ _ _ _))
            have HO3 := hid (show OwnS X3 0 (.slice p4 x4 c4) H1.lines from by rw [hX3]; exact OwnS.aside7 HOx.out HZ.out hd_ne _ _ _ _ _ _ _)
            have HZ3 := hid (show X3.heap[g12]? = some (.cells #[.bool H1.resp, .int .i64 H1.most, .slice p4 x4 c4, .string (str H1.line), .int .i64 (H1.len : Int), .bool H1.done, .int .i64 (H1.err : Int)] 32 (0, 0)) from by rw [hX3]; exact put7 HZ.out _ _ _ _ _ _ _)
            rw [← hX3]
            clear hX3
            have hS3 := HSee.out _ H3.out
            refine late_take (i := 12) (some 13) rfl rfl (by kernel_rfl) (by kernel_rfl) (by kernel_rfl) (by kernel_rfl) (by kernel_rfl) (fun _ _ _ h => h) (by rfl) (v := ?v12nBl) ?hy12nBl hS3 ?rest12nBl
            case hy12nBl => intro w0 hSw; (try dsimp only at hSw); obtain ⟨⟨q0, q1, q2, q3, q4, q5, q6, _⟩, q7, q8⟩ := hSw; go_simp; try with_reducible rfl
            simp only [Act.put, List.setIfInBounds_toArray, List.set_cons_zero, List.set_cons_succ]
            clear hS3
            refine late_done (by kernel_rfl) ?_ _
            refine NoPanic.normal ?_
            obtain ⟨z0, z1, z2, z3, z4, z5, z6, _⟩ := seven HZ3.out
            obtain ⟨y0, y1, y2, y3, y4, y5, y6, yz⟩ := FS.seven H3.out
            have yz0 := yz 0; have yz1 := yz 1; have yz2 := yz 2; have yz3 := yz 3; have yz4 := yz 4; have yz5 := yz 5; have yz6 := yz 6
            clear yz
            go_wp2
            clear z0 z1 z2 z3 z4 z5 z6 y0 y1 y2 y3 y4 y5 y6 yz0 yz1 yz2 yz3 yz4 yz5 yz6
            obtain ⟨X4, hX4⟩ : ∃ X4, X4 = ((((((((X3.setCell ⟨g5, 0, none⟩ (.bool H1.resp)).setCell ⟨g5, 1, none⟩ (.int .i64 H1.most)).setCell ⟨g5, 2, none⟩ (.slice p4 x4 c4)).setCell ⟨g5, 3, none⟩ (.string (str H1.line))).setCell ⟨g5, 4, none⟩ (.int .i64 (H1.len : Int))).setCell ⟨g5, 5, none⟩ (.bool H1.done)).setCell ⟨g5, 6, none⟩ (.int .i64 (H1.err : Int)))).drew := ⟨_, rfl⟩
            have H5 := hid (show FS w X4 #[.bool r, .int .i64 m, .slice (some ⟨g, o, none⟩) n c] g1 g5 G H1 (.slice p4 x4 c4) s1 from by rw [hX4]; exact (H3.out.put (only7 (F := fun k => k = g5) rfl _ _ _ _ _ _ _) (put7 H3.out.hd _ _ _ _ _ _ _) (OwnS.aside7 HO3.out H3.out.hd hd_ne _ _ _ _ _ _ _)).drew)
            refine wp_region_noPanic ?_
            refine any_begin 23 (by kernel_rfl) (by kernel_rfl) ?_
            rw [← hX4]
            clear hX4
            refine late_begin (fun U => Seven U g5 (.bool H1.resp) (.int .i64 H1.most) (.slice p4 x4 c4) (.string (str H1.line)) (.int .i64 (H1.len : Int)) (.bool H1.done) (.int .i64 (H1.err : Int))) (fun _ => false) (FS.seven H5.out) (fun hS => ?_)
            refine late_take (i := 0) (some 94) rfl rfl (by kernel_rfl) (by kernel_rfl) (by kernel_rfl) (by kernel_rfl) (by kernel_rfl) (fun _ _ _ h => h) (by rfl) (v := ?v0nBz) ?hy0nBz hS ?rest0nBz
            case hy0nBz => intro w0 hSw; (try dsimp only at hSw); obtain ⟨q0, q1, q2, q3, q4, q5, q6, _⟩ := hSw; go_simp; try with_reducible rfl
            simp only [Act.put, List.setIfInBounds_toArray, List.set_cons_zero, List.set_cons_succ]
            refine late_take (i := 1) (some 95) rfl rfl (by kernel_rfl) (by kernel_rfl) (by kernel_rfl) (by kernel_rfl) (by kernel_rfl) (fun _ _ _ h => h) (by rfl) (v := ?v1nBz) ?hy1nBz hS ?rest1nBz
            case hy1nBz => intro w0 hSw; (try dsimp only at hSw); obtain ⟨q0, q1, q2, q3, q4, q5, q6, _⟩ := hSw; go_simp; try with_reducible rfl
            simp only [Act.put, List.setIfInBounds_toArray, List.set_cons_zero, List.set_cons_succ]
            refine late_take (i := 2) (some 96) rfl rfl (by kernel_rfl) (by kernel_rfl) (by kernel_rfl) (by kernel_rfl) (by kernel_rfl) (fun _ _ _ h => h) (by rfl) (v := ?v2nBz) ?hy2nBz hS ?rest2nBz
            case hy2nBz => intro w0 hSw; (try dsimp only at hSw); obtain ⟨q0, q1, q2, q3, q4, q5, q6, _⟩ := hSw; go_simp; try with_reducible rfl
            simp only [Act.put, List.setIfInBounds_toArray, List.set_cons_zero, List.set_cons_succ]
            refine late_take (i := 3) (some 97) rfl rfl (by kernel_rfl) (by kernel_rfl) (by kernel_rfl) (by kernel_rfl) (by kernel_rfl) (fun _ _ _ h => h) (by rfl) (v := ?v3nBz) ?hy3nBz hS ?rest3nBz
            case hy3nBz => intro w0 hSw; (try dsimp only at hSw); obtain ⟨q0, q1, q2, q3, q4, q5, q6, _⟩ := hSw; go_simp; try with_reducible rfl
            simp only [Act.put, List.setIfInBounds_toArray, List.set_cons_zero, List.set_cons_succ]
            refine late_take (i := 4) (some 98) rfl rfl (by kernel_rfl) (by kernel_rfl) (by kernel_rfl) (by kernel_rfl) (by kernel_rfl) (fun _ _ _ h => h) (by rfl) (v := ?v4nBz) ?hy4nBz hS ?rest4nBz
            case hy4nBz => intro w0 hSw; (try dsimp only at hSw); obtain ⟨q0, q1, q2, q3, q4, q5, q6, _⟩ := hSw; go_simp; try with_reducible rfl
            simp only [Act.put, List.setIfInBounds_toArray, List.set_cons_zero, List.set_cons_succ]
            refine late_take (i := 5) (some 99) rfl rfl (by kernel_rfl) (by kernel_rfl) (by kernel_rfl) (by kernel_rfl) (by kernel_rfl) (fun _ _ _ h => h) (by rfl) (v := ?v5nBz) ?hy5nBz hS ?rest5nBz
            case hy5nBz => intro w0 hSw; (try dsimp only at hSw); obtain ⟨q0, q1, q2, q3, q4, q5, q6, _⟩ := hSw; go_simp; try with_reducible rfl
            simp only [Act.put, List.setIfInBounds_toArray, List.set_cons_zero, List.set_cons_succ]
            refine late_take (i := 6) (some 100) rfl rfl (by kernel_rfl) (by kernel_rfl) (by kernel_rfl) (by kernel_rfl) (by kernel_rfl) (fun _ _ _ h => h) (by rfl) (v := ?v6nBz) ?hy6nBz hS ?rest6nBz
            case hy6nBz => intro w0 hSw; (try dsimp only at hSw); obtain ⟨q0, q1, q2, q3, q4, q5, q6, _⟩ := hSw; go_simp; try with_reducible rfl
            simp only [Act.put, List.setIfInBounds_toArray, List.set_cons_zero, List.set_cons_succ]
            refine late_take (i := 7) (some 101) rfl rfl (by kernel_rfl) (by kernel_rfl) (by kernel_rfl) (by kernel_rfl) (by kernel_rfl) (fun _ _ _ h => h) (by rfl) (v := ?v7nBz) ?hy7nBz hS ?rest7nBz
            case hy7nBz => intro w0 hSw; (try dsimp only at hSw); obtain ⟨q0, q1, q2, q3, q4, q5, q6, _⟩ := hSw; go_simp; try with_reducible rfl
            simp only [Act.put, List.setIfInBounds_toArray, List.set_cons_zero, List.set_cons_succ]
            refine late_take (i := 8) (some 102) rfl rfl (by kernel_rfl) (by kernel_rfl) (by kernel_rfl) (by kernel_rfl) (by kernel_rfl) (fun _ _ _ h => h) (by rfl) (v := ?v8nBz) ?hy8nBz hS ?rest8nBz
            case hy8nBz => intro w0 hSw; (try dsimp only at hSw); obtain ⟨q0, q1, q2, q3, q4, q5, q6, _⟩ := hSw; go_simp; try with_reducible rfl
            simp only [Act.put, List.setIfInBounds_toArray, List.set_cons_zero, List.set_cons_succ]
            refine late_take (i := 9) (some 103) rfl rfl (by kernel_rfl) (by kernel_rfl) (by kernel_rfl) (by kernel_rfl) (by kernel_rfl) (fun _ _ _ h => h) (by rfl) (v := ?v9nBz) ?hy9nBz hS ?rest9nBz
            case hy9nBz => intro w0 hSw; (try dsimp only at hSw); obtain ⟨q0, q1, q2, q3, q4, q5, q6, _⟩ := hSw; go_simp; try with_reducible rfl
            simp only [Act.put, List.setIfInBounds_toArray, List.set_cons_zero, List.set_cons_succ]
            refine late_take (i := 10) (some 104) rfl rfl (by kernel_rfl) (by kernel_rfl) (by kernel_rfl) (by kernel_rfl) (by kernel_rfl) (fun _ _ _ h => h) (by rfl) (v := ?v10nBz) ?hy10nBz hS ?rest10nBz
            case hy10nBz => intro w0 hSw; (try dsimp only at hSw); obtain ⟨q0, q1, q2, q3, q4, q5, q6, _⟩ := hSw; go_simp; try with_reducible rfl
            simp only [Act.put, List.setIfInBounds_toArray, List.set_cons_zero, List.set_cons_succ]
            refine late_take (i := 12) (some 106) rfl rfl (by kernel_rfl) (by kernel_rfl) (by kernel_rfl) (by kernel_rfl) (by kernel_rfl) (fun _ _ _ h => h) (by rfl) (v := ?v12nBz) ?hy12nBz hS ?rest12nBz
            case hy12nBz => intro w0 hSw; (try dsimp only at hSw); obtain ⟨q0, q1, q2, q3, q4, q5, q6, _⟩ := hSw; go_simp; try with_reducible rfl
            simp only [Act.put, List.setIfInBounds_toArray, List.set_cons_zero, List.set_cons_succ]
            refine late_take (i := 13) (some 107) rfl rfl (by kernel_rfl) (by kernel_rfl) (by kernel_rfl) (by kernel_rfl) (by kernel_rfl) (fun _ _ _ h => h) (by rfl) (v := ?v13nBz) ?hy13nBz hS ?rest13nBz
            case hy13nBz => intro w0 hSw; (try dsimp only at hSw); obtain ⟨q0, q1, q2, q3, q4, q5, q6, _⟩ := hSw; go_simp; try with_reducible rfl
            simp only [Act.put, List.setIfInBounds_toArray, List.set_cons_zero, List.set_cons_succ]
            refine wpAnyD_one (i := 11) (by kernel_rfl) rfl (fun K hK => ?_)
            go_simp
            go_at_call 12
            refine (HNm.out _ H5.out.low).mono ?_
            rintro e w6 ⟨rfl, hb6⟩
            have H6 := hid (H5.out.next hb6)
            have hS6 := FS.seven H6.out
            refine hK _ _ ⟨fun _ => hS6, ?_⟩
            clear hK K hb6 hS
            refine late_take (i := 14) (some 108) rfl rfl (by kernel_rfl) (by kernel_rfl) (by kernel_rfl) (by kernel_rfl) (by kernel_rfl) (fun _ _ _ h => h) (by rfl) (v := ?v14nBz) ?hy14nBz hS6 ?rest14nBz
            case hy14nBz => intro w0 hSw; (try dsimp only at hSw); obtain ⟨q0, q1, q2, q3, q4, q5, q6, _⟩ := hSw; go_simp; try with_reducible rfl
            simp only [Act.put, List.setIfInBounds_toArray, List.set_cons_zero, List.set_cons_succ]
            refine late_take (i := 15) (some 109) rfl rfl (by kernel_rfl) (by kernel_rfl) (by kernel_rfl) (by kernel_rfl) (by kernel_rfl) (fun _ _ _ h => h) (by rfl) (v := ?v15nBz) ?hy15nBz hS6 ?rest15nBz
            case hy15nBz => intro w0 hSw; (try dsimp only at hSw); obtain ⟨q0, q1, q2, q3, q4, q5, q6, _⟩ := hSw; go_simp; try with_reducible rfl
            simp only [Act.put, List.setIfInBounds_toArray, List.set_cons_zero, List.set_cons_succ]
            refine late_take (i := 16) (some 110) rfl rfl (by kernel_rfl) (by kernel_rfl) (by kernel_rfl) (by kernel_rfl) (by kernel_rfl) (fun _ _ _ h => h) (by rfl) (v := ?v16nBz) ?hy16nBz hS6 ?rest16nBz
            case hy16nBz => intro w0 hSw; (try dsimp only at hSw); obtain ⟨q0, q1, q2, q3, q4, q5, q6, _⟩ := hSw; go_simp; try with_reducible rfl
            simp only [Act.put, List.setIfInBounds_toArray, List.set_cons_zero, List.set_cons_succ]
            refine late_take (i := 17) (some 111) rfl rfl (by kernel_rfl) (by kernel_rfl) (by kernel_rfl) (by kernel_rfl) (by kernel_rfl) (fun _ _ _ h => h) (by rfl) (v := ?v17nBz) ?hy17nBz hS6 ?rest17nBz
            case hy17nBz => intro w0 hSw; (try dsimp only at hSw); obtain ⟨q0, q1, q2, q3, q4, q5, q6, _⟩ := hSw; go_simp; try with_reducible rfl
            simp only [Act.put, List.setIfInBounds_toArray, List.set_cons_zero, List.set_cons_succ]
            refine late_take (i := 19) (some 113) rfl rfl (by kernel_rfl) (by kernel_rfl) (by kernel_rfl) (by kernel_rfl) (by kernel_rfl) (fun _ _ _ h => h) (by rfl) (v := ?v19nBz) ?hy19nBz hS6 ?rest19nBz
            case hy19nBz => intro w0 hSw; (try dsimp only at hSw); obtain ⟨q0, q1, q2, q3, q4, q5, q6, _⟩ := hSw; go_simp; try with_reducible rfl
            simp only [Act.put, List.setIfInBounds_toArray, List.set_cons_zero, List.set_cons_succ]
            refine late_take (i := 20) (some 114) rfl rfl (by kernel_rfl) (by kernel_rfl) (by kernel_rfl) (by kernel_rfl) (by kernel_rfl) (fun _ _ _ h => h) (by rfl) (v := ?v20nBz) ?hy20nBz hS6 ?rest20nBz
            case hy20nBz => intro w0 hSw; (try dsimp only at hSw); obtain ⟨q0, q1, q2, q3, q4, q5, q6, _⟩ := hSw; go_simp; try with_reducible rfl
            simp only [Act.put, List.setIfInBounds_toArray, List.set_cons_zero, List.set_cons_succ]
            refine wpAnyD_one (i := 18) (by kernel_rfl) rfl (fun K hK => ?_)
            go_simp
            go_at_call 19
            refine (HLn2.out _ _ _ _ H6.out).mono ?_
            rintro e w7 ⟨rfl, hw7⟩
            subst w7
            refine hK _ _ ⟨fun _ => hS6, ?_⟩
            clear hK K
            refine late_take (i := 21) (some 115) rfl rfl (by kernel_rfl) (by kernel_rfl) (by kernel_rfl) (by kernel_rfl) (by kernel_rfl) (fun _ _ _ h => h) (by rfl) (v := ?v21nBz) ?hy21nBz hS6 ?rest21nBz
            case hy21nBz => intro w0 hSw; (try dsimp only at hSw); obtain ⟨q0, q1, q2, q3, q4, q5, q6, _⟩ := hSw; go_simp; try with_reducible rfl
            simp only [Act.put, List.setIfInBounds_toArray, List.set_cons_zero, List.set_cons_succ]
            refine late_take (i := 22) (some 116) rfl rfl (by kernel_rfl) (by kernel_rfl) (by kernel_rfl) (by kernel_rfl) (by kernel_rfl) (fun _ _ _ h => h) (by rfl) (v := ?v22nBz) ?hy22nBz hS6 ?rest22nBz
            case hy22nBz => intro w0 hSw; (try dsimp only at hSw); obtain ⟨q0, q1, q2, q3, q4, q5, q6, _⟩ := hSw; go_simp; try with_reducible rfl
            simp only [Act.put, List.setIfInBounds_toArray, List.set_cons_zero, List.set_cons_succ]
            refine late_done (by kernel_rfl) ?_ _
            refine NoPanic.normal ?_
            have hwi : wrap64 ((i : Int) + 1) = (i : Int) + 1 := by unfold wrap64; omega
            go_wp2
            go_roundg (n - (i + 1) + 1)
            case measure => omega
            case rel => exact ⟨i + 1, G, H1, .slice p4 x4 c4, s1, (by (try rw [hwi]); push_cast; rfl), by omega, rfl, H6.out, HW1.out⟩
        | some ad =>
          have HNw := hid (HA0.out.next HY.out.low).news
          go_wp2_with (first | (at_builtin; refine wpList_append_own_at _ rfl (.tmp 72) (.tmp 77) 22 rfl wr.heap.size 5 i0 _ 1 1 Tryd.underlying22 hi0 hz0 hz1 hz2 rfl (by decide) (.slice none 0 0) 0 [] (by go_simp) (⟨rfl, .inl ⟨rfl, rfl⟩⟩) ad L cc (Lib.byteCells l) (by go_simp) (by simp [Lib.byteCells, HLn.out]) (HNw.out) (byte_one9 l) (by unfold maxLen; omega) (by omega) (Nat.le_refl _) ?_; intro v' w1 hown hgr _ _; rw [Nat.zero_add, List.nil_append] at hown; obtain ⟨q1, c1, rfl⟩ := own_slice hown; have HO := hid (show Own w1 wr.heap.size (.slice q1 L c1) l from by unfold Own; rw [HLn.out]; exact hown); have HBg := hid (below_grown hgr); have HGe := hid (show ∀ a, q1 = some a → wr.heap.size ≤ a.block from fun a e => own_ge HO.out (by rw [e]; rfl)); have HAr := hid (Own.arg HO.out); clear hown hgr) | (go_at_call 17; (with_reducible refine (HFd.out _ q1 c1 (HBg.out) (HAr.out) (HGe.out)).mono ?_); rintro e w2 ⟨rfl, G, h2⟩; have H2 := hid h2; clear h2))
          clear b0 b1 b2 hc
          obtain ⟨U, hU⟩ : ∃ U, U = w2.drew := ⟨_, rfl⟩
          have HSU := hid (show FS w U #[.bool r, .int .i64 m, .slice (some ⟨g, o, none⟩) n c] g1 g5 G H (.slice vp vn vc) s1 from by rw [hU]; exact H2.out.drew)
          refine wp_region_noPanic ?_
          refine any_begin 13 (by kernel_rfl) (by kernel_rfl) ?_
          rw [← hU]
          clear hU
          refine late_begin (fun U => Seven U g5 (.bool H.resp) (.int .i64 H.most) (.slice vp vn vc) (.string (str H.line)) (.int .i64 (H.len : Int)) (.bool H.done) (.int .i64 (H.err : Int)) ∧ U.cell? ⟨w.heap.size, 2, none⟩ = some (.slice (some ⟨g, o, none⟩) n c) ∧ U.cell? ⟨g, o + i, none⟩ = some (.slice (some ad) L cc)) (fun _ => false) (HSee.out _ HSU.out) (fun hS => ?_)
          refine late_take (i := 0) (some 84) rfl rfl (by kernel_rfl) (by kernel_rfl) (by kernel_rfl) (by kernel_rfl) (by kernel_rfl) (fun _ _ _ h => h) (by rfl) (v := ?v0s) ?hy0s hS ?rest0s
          case hy0s => intro w0 hSw; (try dsimp only at hSw); obtain ⟨⟨q0, q1, q2, q3, q4, q5, q6, _⟩, q7, q8⟩ := hSw; go_simp; try with_reducible rfl
          simp only [Act.put, List.setIfInBounds_toArray, List.set_cons_zero, List.set_cons_succ]
          refine late_take (i := 1) (some 85) rfl rfl (by kernel_rfl) (by kernel_rfl) (by kernel_rfl) (by kernel_rfl) (by kernel_rfl) (fun _ _ _ h => h) (by rfl) (v := ?v1s) ?hy1s hS ?rest1s
          case hy1s => intro w0 hSw; (try dsimp only at hSw); obtain ⟨⟨q0, q1, q2, q3, q4, q5, q6, _⟩, q7, q8⟩ := hSw; go_simp; try with_reducible rfl
          simp only [Act.put, List.setIfInBounds_toArray, List.set_cons_zero, List.set_cons_succ]
          refine late_take (i := 2) (some 86) rfl rfl (by kernel_rfl) (by kernel_rfl) (by kernel_rfl) (by kernel_rfl) (by kernel_rfl) (fun _ _ _ h => h) (by rfl) (v := ?v2s) ?hy2s hS ?rest2s
          case hy2s => intro w0 hSw; (try dsimp only at hSw); obtain ⟨⟨q0, q1, q2, q3, q4, q5, q6, _⟩, q7, q8⟩ := hSw; go_simp; try with_reducible rfl
          simp only [Act.put, List.setIfInBounds_toArray, List.set_cons_zero, List.set_cons_succ]
          refine late_take (i := 3) (some 87) rfl rfl (by kernel_rfl) (by kernel_rfl) (by kernel_rfl) (by kernel_rfl) (by kernel_rfl) (fun _ _ _ h => h) (by rfl) (v := ?v3s) ?hy3s hS ?rest3s
          case hy3s => intro w0 hSw; (try dsimp only at hSw); obtain ⟨⟨q0, q1, q2, q3, q4, q5, q6, _⟩, q7, q8⟩ := hSw; go_simp; try with_reducible rfl
          simp only [Act.put, List.setIfInBounds_toArray, List.set_cons_zero, List.set_cons_succ]
          refine late_take (i := 4) (some 88) rfl rfl (by kernel_rfl) (by kernel_rfl) (by kernel_rfl) (by kernel_rfl) (by kernel_rfl) (fun _ _ _ h => h) (by rfl) (v := ?v4s) ?hy4s hS ?rest4s
          case hy4s => intro w0 hSw; (try dsimp only at hSw); obtain ⟨⟨q0, q1, q2, q3, q4, q5, q6, _⟩, q7, q8⟩ := hSw; go_simp; try with_reducible rfl
          simp only [Act.put, List.setIfInBounds_toArray, List.set_cons_zero, List.set_cons_succ]
          refine late_take (i := 5) (some 89) rfl rfl (by kernel_rfl) (by kernel_rfl) (by kernel_rfl) (by kernel_rfl) (by kernel_rfl) (fun _ _ _ h => h) (by rfl) (v := ?v5s) ?hy5s hS ?rest5s
          case hy5s => intro w0 hSw; (try dsimp only at hSw); obtain ⟨⟨q0, q1, q2, q3, q4, q5, q6, _⟩, q7, q8⟩ := hSw; go_simp; try with_reducible rfl
          simp only [Act.put, List.setIfInBounds_toArray, List.set_cons_zero, List.set_cons_succ]
          refine wpAnyD_two (i := 6) (j := 10) (by kernel_rfl) rfl rfl (fun K hK => ?_) (fun K hK => ?_)
          · skip
            go_simp
            go_at_call 18
            refine (HRf.out _ HSU.out.low HSU.out.own).mono ?_
            rintro e w4 ⟨v4, rfl, ho4, hb4⟩
            obtain ⟨p4, c4, hv4⟩ := own_slice ho4
            subst hv4
            obtain ⟨x4, hx4⟩ : ∃ x4, H1.lines.length = x4 := ⟨_, rfl⟩
            rw [hx4] at ho4 ⊢
            have H4 := hid (HSU.out.next hb4)
            have HO4 := hid ho4
            have hS4 := HSee.out _ H4.out
            refine hK _ _ ⟨fun _ => hS4, ?_⟩
            clear hK K hb4 ho4 hx4
            refine late_take (i := 7) (some 83) rfl rfl (by kernel_rfl) (by kernel_rfl) (by kernel_rfl) (by kernel_rfl) (by kernel_rfl) (fun _ _ _ h => h) (by rfl) (v := ?v7sA) ?hy7sA hS4 ?rest7sA
            case hy7sA => intro w0 hSw; (try dsimp only at hSw); obtain ⟨⟨q0, q1, q2, q3, q4, q5, q6, _⟩, q7, q8⟩ := hSw; go_simp; try with_reducible rfl
            simp only [Act.put, List.setIfInBounds_toArray, List.set_cons_zero, List.set_cons_succ]
            refine late_take (i := 8) (some 91) rfl rfl (by kernel_rfl) (by kernel_rfl) (by kernel_rfl) (by kernel_rfl) (by kernel_rfl) (fun _ _ _ h => h) (by rfl) (v := ?v8sA) ?hy8sA hS4 ?rest8sA
            case hy8sA => intro w0 hSw; (try dsimp only at hSw); obtain ⟨⟨q0, q1, q2, q3, q4, q5, q6, _⟩, q7, q8⟩ := hSw; go_simp; try with_reducible rfl
            simp only [Act.put, List.setIfInBounds_toArray, List.set_cons_zero, List.set_cons_succ]
            refine late_take (i := 9) (some 92) rfl rfl (by kernel_rfl) (by kernel_rfl) (by kernel_rfl) (by kernel_rfl) (by kernel_rfl) (fun _ _ _ h => h) (by rfl) (v := ?v9sA) ?hy9sA hS4 ?rest9sA
            case hy9sA => intro w0 hSw; (try dsimp only at hSw); obtain ⟨⟨q0, q1, q2, q3, q4, q5, q6, _⟩, q7, q8⟩ := hSw; go_simp; try with_reducible rfl
            simp only [Act.put, List.setIfInBounds_toArray, List.set_cons_zero, List.set_cons_succ]
            refine wpAnyD_one (i := 10) (by kernel_rfl) rfl (fun K hK => ?_)
            go_simp
            refine hK _ _ ⟨fun _ => HSee.out _ (H4.out.next (below_new w4 (.cells #[.bool false, .int .i64 0, .slice none 0 0, .string ⟨#[]⟩, .int .i64 0, .bool false, .int .i64 0] 32 (0, 0)))), ?_⟩
            clear hK K
            obtain ⟨X, hX⟩ : ∃ X, X = w4.alloc (.cells #[.bool false, .int .i64 0, .slice none 0 0, .string ⟨#[]⟩, .int .i64 0, .bool false, .int .i64 0] 32 (0, 0)) := ⟨_, rfl⟩
            obtain ⟨g12, hg12⟩ : ∃ g12, g12 = w4.heap.size := ⟨_, rfl⟩
            have HX := hid (show FS w X #[.bool r, .int .i64 m, .slice (some ⟨g, o, none⟩) n c] g1 g5 G H (.slice vp vn vc) s1 from by rw [hX]; exact H4.out.next (below_new w4 _))
            have HOx := hid (show OwnS X 0 (.slice p4 x4 c4) H1.lines from by rw [hX]; exact HO4.out.keep (below_new w4 _))
            have HZ := hid (show X.heap[g12]? = some (.cells #[.bool false, .int .i64 0, .slice none 0 0, .string ⟨#[]⟩, .int .i64 0, .bool false, .int .i64 0] 32 (0, 0)) from by rw [hX, hg12]; exact heap_alloc_new w4 _)
            have HG := hid (show w.heap.size < g12 ∧ g12 ≠ g5 ∧ ¬ G g12 from by rw [hg12]; exact ⟨lt_of_heap H4.out.box, fun e => Nat.lt_irrefl _ (by have := lt_of_heap H4.out.hd; rw [← e] at this; exact this), fun h => Nat.lt_irrefl _ (H4.out.f _ h).2⟩)
            rw [← hX]
            rw [← hg12]
            clear hX hg12 hS hS4
            obtain ⟨z0, z1, z2, z3, z4, z5, z6, zz⟩ := seven HZ.out
            have zz0 := zz 0; have zz1 := zz 1; have zz2 := zz 2; have zz3 := zz 3; have zz4 := zz 4; have zz5 := zz 5; have zz6 := zz 6
            clear zz
            refine wpAnyD_one (i := 11) (by kernel_rfl) rfl (fun K hK => ?_)
            go_simp
            have h3 : FS w (((((((X.setCell ⟨g12, 0, none⟩ (.bool H1.resp)).setCell ⟨g12, 1, none⟩ (.int .i64 H1.most)).setCell ⟨g12, 2, none⟩ (.slice p4 x4 c4)).setCell ⟨g12, 3, none⟩ (.string (str H1.line))).setCell ⟨g12, 4, none⟩ (.int .i64 (H1.len : Int))).setCell ⟨g12, 5, none⟩ (.bool H1.done)).setCell ⟨g12, 6, none⟩ (.int .i64 (H1.err : Int))) #[.bool r, .int .i64 m, .slice (some ⟨g, o, none⟩) n c] g1 g5 G H (.slice vp vn vc) s1 := HX.out.aside HZ.out hd_ne HG.out.1 HG.out.2.1 HG.out.2.2 (only7 (F := fun k => k = g12) rfl _ _ _ _ _ _ _)
            refine hK _ _ ⟨fun _ => HSee.out _ h3, ?_⟩
            clear hK K h3 z0 z1 z2 z3 z4 z5 z6 zz0 zz1 zz2 zz3 zz4 zz5 zz6
            obtain ⟨X3, hX3⟩ : ∃ X3, X3 = (((((((X.setCell ⟨g12, 0, none⟩ (.bool H1.resp)).setCell ⟨g12, 1, none⟩ (.int .i64 H1.most)).setCell ⟨g12, 2, none⟩ (.slice p4 x4 c4)).setCell ⟨g12, 3, none⟩ (.string (str H1.line))).setCell ⟨g12, 4, none⟩ (.int .i64 (H1.len : Int))).setCell ⟨g12, 5, none⟩ (.bool H1.done)).setCell ⟨g12, 6, none⟩ (.int .i64 (H1.err : Int))) := ⟨_, rfl⟩
            have H3 := hid (show FS w X3 #[.bool r, .int .i64 m, .slice (some ⟨g, o, none⟩) n c] g1 g5 G H (.slice vp vn vc) s1 from by rw [hX3]; exact HX.out.aside HZ.out hd_ne HG.out.1 HG.out.2.1 HG.out.2.2 (only7 (F := fun k => k = g12) rfl _ _ _ _ _ _ _))
            have HO3 := hid (show OwnS X3 0 (.slice p4 x4 c4) H1.lines from by rw [hX3]; exact OwnS.aside7 HOx.out HZ.out hd_ne _ _ _ _ _ _ _)
            have HZ3 := hid (show X3.heap[g12]? = some (.cells #[.bool H1.resp, .int .i64 H1.most, .slice p4 x4 c4, .string (str H1.line), .int .i64 (H1.len : Int), .bool H1.done, .int .i64 (H1.err : Int)] 32 (0, 0)) from by rw [hX3]; exact put7 HZ.out _ _ _ _ _ _ _)
            rw [← hX3]
            clear hX3
            have hS3 := HSee.out _ H3.out
            refine late_take (i := 12) (some 13) rfl rfl (by kernel_rfl) (by kernel_rfl) (by kernel_rfl) (by kernel_rfl) (by kernel_rfl) (fun _ _ _ h => h) (by rfl) (v := ?v12sAl) ?hy12sAl hS3 ?rest12sAl
            case hy12sAl => intro w0 hSw; (try dsimp only at hSw); obtain ⟨⟨q0, q1, q2, q3, q4, q5, q6, _⟩, q7, q8⟩ := hSw; go_simp; try with_reducible rfl
            simp only [Act.put, List.setIfInBounds_toArray, List.set_cons_zero, List.set_cons_succ]
            clear hS3
            refine late_done (by kernel_rfl) ?_ _
            refine NoPanic.normal ?_
            obtain ⟨z0, z1, z2, z3, z4, z5, z6, _⟩ := seven HZ3.out
            obtain ⟨y0, y1, y2, y3, y4, y5, y6, yz⟩ := FS.seven H3.out
            have yz0 := yz 0; have yz1 := yz 1; have yz2 := yz 2; have yz3 := yz 3; have yz4 := yz 4; have yz5 := yz 5; have yz6 := yz 6
            clear yz
            go_wp2
            clear z0 z1 z2 z3 z4 z5 z6 y0 y1 y2 y3 y4 y5 y6 yz0 yz1 yz2 yz3 yz4 yz5 yz6
            obtain ⟨X4, hX4⟩ : ∃ X4, X4 = ((((((((X3.setCell ⟨g5, 0, none⟩ (.bool H1.resp)).setCell ⟨g5, 1, none⟩ (.int .i64 H1.most)).setCell ⟨g5, 2, none⟩ (.slice p4 x4 c4)).setCell ⟨g5, 3, none⟩ (.string (str H1.line))).setCell ⟨g5, 4, none⟩ (.int .i64 (H1.len : Int))).setCell ⟨g5, 5, none⟩ (.bool H1.done)).setCell ⟨g5, 6, none⟩ (.int .i64 (H1.err : Int)))).drew := ⟨_, rfl⟩
            have H5 := hid (show FS w X4 #[.bool r, .int .i64 m, .slice (some ⟨g, o, none⟩) n c] g1 g5 G H1 (.slice p4 x4 c4) s1 from by rw [hX4]; exact (H3.out.put (only7 (F := fun k => k = g5) rfl _ _ _ _ _ _ _) (put7 H3.out.hd _ _ _ _ _ _ _) (OwnS.aside7 HO3.out H3.out.hd hd_ne _ _ _ _ _ _ _)).drew)
            refine wp_region_noPanic ?_
            refine any_begin 23 (by kernel_rfl) (by kernel_rfl) ?_
            rw [← hX4]
            clear hX4
            refine late_begin (fun U => Seven U g5 (.bool H1.resp) (.int .i64 H1.most) (.slice p4 x4 c4) (.string (str H1.line)) (.int .i64 (H1.len : Int)) (.bool H1.done) (.int .i64 (H1.err : Int))) (fun _ => false) (FS.seven H5.out) (fun hS => ?_)
            refine late_take (i := 0) (some 94) rfl rfl (by kernel_rfl) (by kernel_rfl) (by kernel_rfl) (by kernel_rfl) (by kernel_rfl) (fun _ _ _ h => h) (by rfl) (v := ?v0sAz) ?hy0sAz hS ?rest0sAz
            case hy0sAz => intro w0 hSw; (try dsimp only at hSw); obtain ⟨q0, q1, q2, q3, q4, q5, q6, _⟩ := hSw; go_simp; try with_reducible rfl
            simp only [Act.put, List.setIfInBounds_toArray, List.set_cons_zero, List.set_cons_succ]
            refine late_take (i := 1) (some 95) rfl rfl (by kernel_rfl) (by kernel_rfl) (by kernel_rfl) (by kernel_rfl) (by kernel_rfl) (fun _ _ _ h => h) (by rfl) (v := ?v1sAz) ?hy1sAz hS ?rest1sAz
            case hy1sAz => intro w0 hSw; (try dsimp only at hSw); obtain ⟨q0, q1, q2, q3, q4, q5, q6, _⟩ := hSw; go_simp; try with_reducible rfl
            simp only [Act.put, List.setIfInBounds_toArray, List.set_cons_zero, List.set_cons_succ]
            refine late_take (i := 2) (some 96) rfl rfl (by kernel_rfl) (by kernel_rfl) (by kernel_rfl) (by kernel_rfl) (by kernel_rfl) (fun _ _ _ h => h) (by rfl) (v := ?v2sAz) ?hy2sAz hS ?rest2sAz
            case hy2sAz => intro w0 hSw; (try dsimp only at hSw); obtain ⟨q0, q1, q2, q3, q4, q5, q6, _⟩ := hSw; go_simp; try with_reducible rfl
            simp only [Act.put, List.setIfInBounds_toArray, List.set_cons_zero, List.set_cons_succ]
            refine late_take (i := 3) (some 97) rfl rfl (by kernel_rfl) (by kernel_rfl) (by kernel_rfl) (by kernel_rfl) (by kernel_rfl) (fun _ _ _ h => h) (by rfl) (v := ?v3sAz) ?hy3sAz hS ?rest3sAz
            case hy3sAz => intro w0 hSw; (try dsimp only at hSw); obtain ⟨q0, q1, q2, q3, q4, q5, q6, _⟩ := hSw; go_simp; try with_reducible rfl
            simp only [Act.put, List.setIfInBounds_toArray, List.set_cons_zero, List.set_cons_succ]
            refine late_take (i := 4) (some 98) rfl rfl (by kernel_rfl) (by kernel_rfl) (by kernel_rfl) (by kernel_rfl) (by kernel_rfl) (fun _ _ _ h => h) (by rfl) (v := ?v4sAz) ?hy4sAz hS ?rest4sAz
            case hy4sAz => intro w0 hSw; (try dsimp only at hSw); obtain ⟨q0, q1, q2, q3, q4, q5, q6, _⟩ := hSw; go_simp; try with_reducible rfl
            simp only [Act.put, List.setIfInBounds_toArray, List.set_cons_zero, List.set_cons_succ]
            refine late_take (i := 5) (some 99) rfl rfl (by kernel_rfl) (by kernel_rfl) (by kernel_rfl) (by kernel_rfl) (by kernel_rfl) (fun _ _ _ h => h) (by rfl) (v := ?v5sAz) ?hy5sAz hS ?rest5sAz
            case hy5sAz => intro w0 hSw; (try dsimp only at hSw); obtain ⟨q0, q1, q2, q3, q4, q5, q6, _⟩ := hSw; go_simp; try with_reducible rfl
            simp only [Act.put, List.setIfInBounds_toArray, List.set_cons_zero, List.set_cons_succ]
            refine late_take (i := 6) (some 100) rfl rfl (by kernel_rfl) (by kernel_rfl) (by kernel_rfl) (by kernel_rfl) (by kernel_rfl) (fun _ _ _ h => h) (by rfl) (v := ?v6sAz) ?hy6sAz hS ?rest6sAz
            case hy6sAz => intro w0 hSw; (try dsimp only at hSw); obtain ⟨q0, q1, q2, q3, q4, q5, q6, _⟩ := hSw; go_simp; try with_reducible rfl
            simp only [Act.put, List.setIfInBounds_toArray, List.set_cons_zero, List.set_cons_succ]
            refine late_take (i := 7) (some 101) rfl rfl (by kernel_rfl) (by kernel_rfl) (by kernel_rfl) (by kernel_rfl) (by kernel_rfl) (fun _ _ _ h => h) (by rfl) (v := ?v7sAz) ?hy7sAz hS ?rest7sAz
            case hy7sAz => intro w0 hSw; (try dsimp only at hSw); obtain ⟨q0, q1, q2, q3, q4, q5, q6, _⟩ := hSw; go_simp; try with_reducible rfl
            simp only [Act.put, List.setIfInBounds_toArray, List.set_cons_zero, List.set_cons_succ]
            refine late_take (i := 8) (some 102) rfl rfl (by kernel_rfl) (by kernel_rfl) (by kernel_rfl) (by kernel_rfl) (by kernel_rfl) (fun _ _ _ h => h) (by rfl) (v := ?v8sAz) ?hy8sAz hS ?rest8sAz
            case hy8sAz => intro w0 hSw; (try dsimp only at hSw); obtain ⟨q0, q1, q2, q3, q4, q5, q6, _⟩ := hSw; go_simp; try with_reducible rfl
            simp only [Act.put, List.setIfInBounds_toArray, List.set_cons_zero, List.set_cons_succ]
            refine late_take (i := 9) (some 103) rfl rfl (by kernel_rfl) (by kernel_rfl) (by kernel_rfl) (by kernel_rfl) (by kernel_rfl) (fun _ _ _ h => h) (by rfl) (v := ?v9sAz) ?hy9sAz hS ?rest9sAz
            case hy9sAz => intro w0 hSw; (try dsimp only at hSw); obtain ⟨q0, q1, q2, q3, q4, q5, q6, _⟩ := hSw; go_simp; try with_reducible rfl
            simp only [Act.put, List.setIfInBounds_toArray, List.set_cons_zero, List.set_cons_succ]
            refine late_take (i := 10) (some 104) rfl rfl (by kernel_rfl) (by kernel_rfl) (by kernel_rfl) (by kernel_rfl) (by kernel_rfl) (fun _ _ _ h => h) (by rfl) (v := ?v10sAz) ?hy10sAz hS ?rest10sAz
            case hy10sAz => intro w0 hSw; (try dsimp only at hSw); obtain ⟨q0, q1, q2, q3, q4, q5, q6, _⟩ := hSw; go_simp; try with_reducible rfl
            simp only [Act.put, List.setIfInBounds_toArray, List.set_cons_zero, List.set_cons_succ]
            refine late_take (i := 12) (some 106) rfl rfl (by kernel_rfl) (by kernel_rfl) (by kernel_rfl) (by kernel_rfl) (by kernel_rfl) (fun _ _ _ h => h) (by rfl) (v := ?v12sAz) ?hy12sAz hS ?rest12sAz
            case hy12sAz => intro w0 hSw; (try dsimp only at hSw); obtain ⟨q0, q1, q2, q3, q4, q5, q6, _⟩ := hSw; go_simp; try with_reducible rfl
            simp only [Act.put, List.setIfInBounds_toArray, List.set_cons_zero, List.set_cons_succ]
            refine late_take (i := 13) (some 107) rfl rfl (by kernel_rfl) (by kernel_rfl) (by kernel_rfl) (by kernel_rfl) (by kernel_rfl) (fun _ _ _ h => h) (by rfl) (v := ?v13sAz) ?hy13sAz hS ?rest13sAz
            case hy13sAz => intro w0 hSw; (try dsimp only at hSw); obtain ⟨q0, q1, q2, q3, q4, q5, q6, _⟩ := hSw; go_simp; try with_reducible rfl
            simp only [Act.put, List.setIfInBounds_toArray, List.set_cons_zero, List.set_cons_succ]
            refine wpAnyD_one (i := 11) (by kernel_rfl) rfl (fun K hK => ?_)
            go_simp
            go_at_call 12
            refine (HNm.out _ H5.out.low).mono ?_
            rintro e w6 ⟨rfl, hb6⟩
            have H6 := hid (H5.out.next hb6)
            have hS6 := FS.seven H6.out
            refine hK _ _ ⟨fun _ => hS6, ?_⟩
            clear hK K hb6 hS
            refine late_take (i := 14) (some 108) rfl rfl (by kernel_rfl) (by kernel_rfl) (by kernel_rfl) (by kernel_rfl) (by kernel_rfl) (fun _ _ _ h => h) (by rfl) (v := ?v14sAz) ?hy14sAz hS6 ?rest14sAz
            case hy14sAz => intro w0 hSw; (try dsimp only at hSw); obtain ⟨q0, q1, q2, q3, q4, q5, q6, _⟩ := hSw; go_simp; try with_reducible rfl
            simp only [Act.put, List.setIfInBounds_toArray, List.set_cons_zero, List.set_cons_succ]
            refine late_take (i := 15) (some 109) rfl rfl (by kernel_rfl) (by kernel_rfl) (by kernel_rfl) (by kernel_rfl) (by kernel_rfl) (fun _ _ _ h => h) (by rfl) (v := ?v15sAz) ?hy15sAz hS6 ?rest15sAz
            case hy15sAz => intro w0 hSw; (try dsimp only at hSw); obtain ⟨q0, q1, q2, q3, q4, q5, q6, _⟩ := hSw; go_simp; try with_reducible rfl
            simp only [Act.put, List.setIfInBounds_toArray, List.set_cons_zero, List.set_cons_succ]
            refine late_take (i := 16) (some 110) rfl rfl (by kernel_rfl) (by kernel_rfl) (by kernel_rfl) (by kernel_rfl) (by kernel_rfl) (fun _ _ _ h => h) (by rfl) (v := ?v16sAz) ?hy16sAz hS6 ?rest16sAz
            case hy16sAz => intro w0 hSw; (try dsimp only at hSw); obtain ⟨q0, q1, q2, q3, q4, q5, q6, _⟩ := hSw; go_simp; try with_reducible rfl
            simp only [Act.put, List.setIfInBounds_toArray, List.set_cons_zero, List.set_cons_succ]
            refine late_take (i := 17) (some 111) rfl rfl (by kernel_rfl) (by kernel_rfl) (by kernel_rfl) (by kernel_rfl) (by kernel_rfl) (fun _ _ _ h => h) (by rfl) (v := ?v17sAz) ?hy17sAz hS6 ?rest17sAz
            case hy17sAz => intro w0 hSw; (try dsimp only at hSw); obtain ⟨q0, q1, q2, q3, q4, q5, q6, _⟩ := hSw; go_simp; try with_reducible rfl
            simp only [Act.put, List.setIfInBounds_toArray, List.set_cons_zero, List.set_cons_succ]
            refine late_take (i := 19) (some 113) rfl rfl (by kernel_rfl) (by kernel_rfl) (by kernel_rfl) (by kernel_rfl) (by kernel_rfl) (fun _ _ _ h => h) (by rfl) (v := ?v19sAz) ?hy19sAz hS6 ?rest19sAz
            case hy19sAz => intro w0 hSw; (try dsimp only at hSw); obtain ⟨q0, q1, q2, q3, q4, q5, q6, _⟩ := hSw; go_simp; try with_reducible rfl
            simp only [Act.put, List.setIfInBounds_toArray, List.set_cons_zero, List.set_cons_succ]
            refine late_take (i := 20) (some 114) rfl rfl (by kernel_rfl) (by kernel_rfl) (by kernel_rfl) (by kernel_rfl) (by kernel_rfl) (fun _ _ _ h => h) (by rfl) (v := ?v20sAz) ?hy20sAz hS6 ?rest20sAz
            case hy20sAz => intro w0 hSw; (try dsimp only at hSw); obtain ⟨q0, q1, q2, q3, q4, q5, q6, _⟩ := hSw; go_simp; try with_reducible rfl
            simp only [Act.put, List.setIfInBounds_toArray, List.set_cons_zero, List.set_cons_succ]
            refine wpAnyD_one (i := 18) (by kernel_rfl) rfl (fun K hK => ?_)
            go_simp
            go_at_call 19
            refine (HLn2.out _ _ _ _ H6.out).mono ?_
            rintro e w7 ⟨rfl, hw7⟩
            subst w7
            refine hK _ _ ⟨fun _ => hS6, ?_⟩
            clear hK K
            refine late_take (i := 21) (some 115) rfl rfl (by kernel_rfl) (by kernel_rfl) (by kernel_rfl) (by kernel_rfl) (by kernel_rfl) (fun _ _ _ h => h) (by rfl) (v := ?v21sAz) ?hy21sAz hS6 ?rest21sAz
            case hy21sAz => intro w0 hSw; (try dsimp only at hSw); obtain ⟨q0, q1, q2, q3, q4, q5, q6, _⟩ := hSw; go_simp; try with_reducible rfl
            simp only [Act.put, List.setIfInBounds_toArray, List.set_cons_zero, List.set_cons_succ]
            refine late_take (i := 22) (some 116) rfl rfl (by kernel_rfl) (by kernel_rfl) (by kernel_rfl) (by kernel_rfl) (by kernel_rfl) (fun _ _ _ h => h) (by rfl) (v := ?v22sAz) ?hy22sAz hS6 ?rest22sAz
            case hy22sAz => intro w0 hSw; (try dsimp only at hSw); obtain ⟨q0, q1, q2, q3, q4, q5, q6, _⟩ := hSw; go_simp; try with_reducible rfl
            simp only [Act.put, List.setIfInBounds_toArray, List.set_cons_zero, List.set_cons_succ]
            refine late_done (by kernel_rfl) ?_ _
            refine NoPanic.normal ?_
            have hwi : wrap64 ((i : Int) + 1) = (i : Int) + 1 := by unfold wrap64; omega
            go_wp2
            go_roundg (n - (i + 1) + 1)
            case measure => omega
            case rel => exact ⟨i + 1, G, H1, .slice p4 x4 c4, s1, (by (try rw [hwi]); push_cast; rfl), by omega, rfl, H6.out, HW1.out⟩
          · skip
            go_simp
            have hA0 := HSU.out.next (below_new U (.cells #[.bool false, .int .i64 0, .slice none 0 0, .string ⟨#[]⟩, .int .i64 0, .bool false, .int .i64 0] 32 (0, 0)))
            refine hK _ _ ⟨fun _ => HSee.out _ hA0, ?_⟩
            clear hK K
            obtain ⟨X0, hX0⟩ : ∃ X0, X0 = U.alloc (.cells #[.bool false, .int .i64 0, .slice none 0 0, .string ⟨#[]⟩, .int .i64 0, .bool false, .int .i64 0] 32 (0, 0)) := ⟨_, rfl⟩
            obtain ⟨g12, hg12⟩ : ∃ g12, g12 = U.heap.size := ⟨_, rfl⟩
            have HX0 := hid (show FS w X0 #[.bool r, .int .i64 m, .slice (some ⟨g, o, none⟩) n c] g1 g5 G H (.slice vp vn vc) s1 from by rw [hX0]; exact hA0)
            have HZ0 := hid (show X0.heap[g12]? = some (.cells #[.bool false, .int .i64 0, .slice none 0 0, .string ⟨#[]⟩, .int .i64 0, .bool false, .int .i64 0] 32 (0, 0)) from by rw [hX0, hg12]; exact heap_alloc_new U _)
            have HG := hid (show w.heap.size < g12 ∧ g12 ≠ g5 ∧ ¬ G g12 from by rw [hg12]; exact ⟨lt_of_heap HSU.out.box, fun e => Nat.lt_irrefl _ (by have := lt_of_heap HSU.out.hd; rw [← e] at this; exact this), fun h => Nat.lt_irrefl _ (HSU.out.f _ h).2⟩)
            rw [← hX0]
            rw [← hg12]
            clear hX0 hg12 hS hA0
            refine wpAnyD_one (i := 6) (by kernel_rfl) rfl (fun K hK => ?_)
            go_simp
            go_at_call 18
            refine (HRf.out _ HX0.out.low HX0.out.own).mono ?_
            rintro e X ⟨v4, rfl, ho4, hb4⟩
            obtain ⟨p4, c4, hv4⟩ := own_slice ho4
            subst hv4
            obtain ⟨x4, hx4⟩ : ∃ x4, H1.lines.length = x4 := ⟨_, rfl⟩
            rw [hx4] at ho4 ⊢
            have HX := hid (HX0.out.next hb4)
            have HOx := hid ho4
            have HZ := hid ((hb4.block _ (lt_of_heap HZ0.out)).trans HZ0.out)
            have hS4 := HSee.out _ HX.out
            refine hK _ _ ⟨fun _ => hS4, ?_⟩
            clear hK K hb4 ho4 hx4
            refine late_take (i := 7) (some 83) rfl rfl (by kernel_rfl) (by kernel_rfl) (by kernel_rfl) (by kernel_rfl) (by kernel_rfl) (fun _ _ _ h => h) (by rfl) (v := ?v7sB) ?hy7sB hS4 ?rest7sB
            case hy7sB => intro w0 hSw; (try dsimp only at hSw); obtain ⟨⟨q0, q1, q2, q3, q4, q5, q6, _⟩, q7, q8⟩ := hSw; go_simp; try with_reducible rfl
            simp only [Act.put, List.setIfInBounds_toArray, List.set_cons_zero, List.set_cons_succ]
            refine late_take (i := 8) (some 91) rfl rfl (by kernel_rfl) (by kernel_rfl) (by kernel_rfl) (by kernel_rfl) (by kernel_rfl) (fun _ _ _ h => h) (by rfl) (v := ?v8sB) ?hy8sB hS4 ?rest8sB
            case hy8sB => intro w0 hSw; (try dsimp only at hSw); obtain ⟨⟨q0, q1, q2, q3, q4, q5, q6, _⟩, q7, q8⟩ := hSw; go_simp; try with_reducible rfl
            simp only [Act.put, List.setIfInBounds_toArray, List.set_cons_zero, List.set_cons_succ]
            refine late_take (i := 9) (some 92) rfl rfl (by kernel_rfl) (by kernel_rfl) (by kernel_rfl) (by kernel_rfl) (by kernel_rfl) (fun _ _ _ h => h) (by rfl) (v := ?v9sB) ?hy9sB hS4 ?rest9sB
            case hy9sB => intro w0 hSw; (try dsimp only at hSw); obtain ⟨⟨q0, q1, q2, q3, q4, q5, q6, _⟩, q7, q8⟩ := hSw; go_simp; try with_reducible rfl
            simp only [Act.put, List.setIfInBounds_toArray, List.set_cons_zero, List.set_cons_succ]
            clear hS4
            obtain ⟨z0, z1, z2, z3, z4, z5, z6, zz⟩ := seven HZ.out
            have zz0 := zz 0; have zz1 := zz 1; have zz2 := zz 2; have zz3 := zz 3; have zz4 := zz 4; have zz5 := zz 5; have zz6 := zz 6
            clear zz
            refine wpAnyD_one (i := 11) (by kernel_rfl) rfl (fun K hK => ?_)
            go_simp
            have h3 : FS w (((((((X.setCell ⟨g12, 0, none⟩ (.bool H1.resp)).setCell ⟨g12, 1, none⟩ (.int .i64 H1.most)).setCell ⟨g12, 2, none⟩ (.slice p4 x4 c4)).setCell ⟨g12, 3, none⟩ (.string (str H1.line))).setCell ⟨g12, 4, none⟩ (.int .i64 (H1.len : Int))).setCell ⟨g12, 5, none⟩ (.bool H1.done)).setCell ⟨g12, 6, none⟩ (.int .i64 (H1.err : Int))) #[.bool r, .int .i64 m, .slice (some ⟨g, o, none⟩) n c] g1 g5 G H (.slice vp vn vc) s1 := HX.out.aside HZ.out hd_ne HG.out.1 HG.out.2.1 HG.out.2.2 (only7 (F := fun k => k = g12) rfl _ _ _ _ _ _ _)
            refine hK _ _ ⟨fun _ => HSee.out _ h3, ?_⟩
            clear hK K h3 z0 z1 z2 z3 z4 z5 z6 zz0 zz1 zz2 zz3 zz4 zz5 zz6
            obtain ⟨X3, hX3⟩ : ∃ X3, X3 = (((((((X.setCell ⟨g12, 0, none⟩ (.bool H1.resp)).setCell ⟨g12, 1, none⟩ (.int .i64 H1.most)).setCell ⟨g12, 2, none⟩ (.slice p4 x4 c4)).setCell ⟨g12, 3, none⟩ (.string (str H1.line))).setCell ⟨g12, 4, none⟩ (.int .i64 (H1.len : Int))).setCell ⟨g12, 5, none⟩ (.bool H1.done)).setCell ⟨g12, 6, none⟩ (.int .i64 (H1.err : Int))) := ⟨_, rfl⟩
            have H3 := hid (show FS w X3 #[.bool r, .int .i64 m, .slice (some ⟨g, o, none⟩) n c] g1 g5 G H (.slice vp vn vc) s1 from by rw [hX3]; exact HX.out.aside HZ.out hd_ne HG.out.1 HG.out.2.1 HG.out.2.2 (only7 (F := fun k => k = g12) rfl _ _ _ _ _ _ _))
            have HO3 := hid (show OwnS X3 0 (.slice p4 x4 c4) H1.lines from by rw [hX3]; exact OwnS.aside7 HOx.out HZ.out hd_ne _ _ _ _ _ _ _)
            have HZ3 := hid (show X3.heap[g12]? = some (.cells #[.bool H1.resp, .int .i64 H1.most, .slice p4 x4 c4, .string (str H1.line), .int .i64 (H1.len : Int), .bool H1.done, .int .i64 (H1.err : Int)] 32 (0, 0)) from by rw [hX3]; exact put7 HZ.out _ _ _ _ _ _ _)
            rw [← hX3]
            clear hX3
            have hS3 := HSee.out _ H3.out
            refine late_take (i := 12) (some 13) rfl rfl (by kernel_rfl) (by kernel_rfl) (by kernel_rfl) (by kernel_rfl) (by kernel_rfl) (fun _ _ _ h => h) (by rfl) (v := ?v12sBl) ?hy12sBl hS3 ?rest12sBl
            case hy12sBl => intro w0 hSw; (try dsimp only at hSw); obtain ⟨⟨q0, q1, q2, q3, q4, q5, q6, _⟩, q7, q8⟩ := hSw; go_simp; try with_reducible rfl
            simp only [Act.put, List.setIfInBounds_toArray, List.set_cons_zero, List.set_cons_succ]
            clear hS3
            refine late_done (by kernel_rfl) ?_ _
            refine NoPanic.normal ?_
            obtain ⟨z0, z1, z2, z3, z4, z5, z6, _⟩ := seven HZ3.out
            obtain ⟨y0, y1, y2, y3, y4, y5, y6, yz⟩ := FS.seven H3.out
            have yz0 := yz 0; have yz1 := yz 1; have yz2 := yz 2; have yz3 := yz 3; have yz4 := yz 4; have yz5 := yz 5; have yz6 := yz 6
            clear yz
            go_wp2
            clear z0 z1 z2 z3 z4 z5 z6 y0 y1 y2 y3 y4 y5 y6 yz0 yz1 yz2 yz3 yz4 yz5 yz6
            obtain ⟨X4, hX4⟩ : ∃ X4, X4 = ((((((((X3.setCell ⟨g5, 0, none⟩ (.bool H1.resp)).setCell ⟨g5, 1, none⟩ (.int .i64 H1.most)).setCell ⟨g5, 2, none⟩ (.slice p4 x4 c4)).setCell ⟨g5, 3, none⟩ (.string (str H1.line))).setCell ⟨g5, 4, none⟩ (.int .i64 (H1.len : Int))).setCell ⟨g5, 5, none⟩ (.bool H1.done)).setCell ⟨g5, 6, none⟩ (.int .i64 (H1.err : Int)))).drew := ⟨_, rfl⟩
            have H5 := hid (show FS w X4 #[.bool r, .int .i64 m, .slice (some ⟨g, o, none⟩) n c] g1 g5 G H1 (.slice p4 x4 c4) s1 from by rw [hX4]; exact (H3.out.put (only7 (F := fun k => k = g5) rfl _ _ _ _ _ _ _) (put7 H3.out.hd _ _ _ _ _ _ _) (OwnS.aside7 HO3.out H3.out.hd hd_ne _ _ _ _ _ _ _)).drew)
            refine wp_region_noPanic ?_
            refine any_begin 23 (by kernel_rfl) (by kernel_rfl) ?_
            rw [← hX4]
            clear hX4
            refine late_begin (fun U => Seven U g5 (.bool H1.resp) (.int .i64 H1.most) (.slice p4 x4 c4) (.string (str H1.line)) (.int .i64 (H1.len : Int)) (.bool H1.done) (.int .i64 (H1.err : Int))) (fun _ => false) (FS.seven H5.out) (fun hS => ?_)
            refine late_take (i := 0) (some 94) rfl rfl (by kernel_rfl) (by kernel_rfl) (by kernel_rfl) (by kernel_rfl) (by kernel_rfl) (fun _ _ _ h => h) (by rfl) (v := ?v0sBz) ?hy0sBz hS ?rest0sBz
            case hy0sBz => intro w0 hSw; (try dsimp only at hSw); obtain ⟨q0, q1, q2, q3, q4, q5, q6, _⟩ := hSw; go_simp; try with_reducible rfl
            simp only [Act.put, List.setIfInBounds_toArray, List.set_cons_zero, List.set_cons_succ]
            refine late_take (i := 1) (some 95) rfl rfl (by kernel_rfl) (by kernel_rfl) (by kernel_rfl) (by kernel_rfl) (by kernel_rfl) (fun _ _ _ h => h) (by rfl) (v := ?v1sBz) ?hy1sBz hS ?rest1sBz
            case hy1sBz => intro w0 hSw; (try dsimp only at hSw); obtain ⟨q0, q1, q2, q3, q4, q5, q6, _⟩ := hSw; go_simp; try with_reducible rfl
            simp only [Act.put, List.setIfInBounds_toArray, List.set_cons_zero, List.set_cons_succ]
            refine late_take (i := 2) (some 96) rfl rfl (by kernel_rfl) (by kernel_rfl) (by kernel_rfl) (by kernel_rfl) (by kernel_rfl) (fun _ _ _ h => h) (by rfl) (v := ?v2sBz) ?hy2sBz hS ?rest2sBz
            case hy2sBz => intro w0 hSw; (try dsimp only at hSw); obtain ⟨q0, q1, q2, q3, q4, q5, q6, _⟩ := hSw; go_simp; try with_reducible rfl
            simp only [Act.put, List.setIfInBounds_toArray, List.set_cons_zero, List.set_cons_succ]
            refine late_take (i := 3) (some 97) rfl rfl (by kernel_rfl) (by kernel_rfl) (by kernel_rfl) (by kernel_rfl) (by kernel_rfl) (fun _ _ _ h => h) (by rfl) (v := ?v3sBz) ?hy3sBz hS ?rest3sBz
            case hy3sBz => intro w0 hSw; (try dsimp only at hSw); obtain ⟨q0, q1, q2, q3, q4, q5, q6, _⟩ := hSw; go_simp; try with_reducible rfl
            simp only [Act.put, List.setIfInBounds_toArray, List.set_cons_zero, List.set_cons_succ]
            refine late_take (i := 4) (some 98) rfl rfl (by kernel_rfl) (by kernel_rfl) (by kernel_rfl) (by kernel_rfl) (by kernel_rfl) (fun _ _ _ h => h) (by rfl) (v := ?v4sBz) ?hy4sBz hS ?rest4sBz
            case hy4sBz => intro w0 hSw; (try dsimp only at hSw); obtain ⟨q0, q1, q2, q3, q4, q5, q6, _⟩ := hSw; go_simp; try with_reducible rfl
            simp only [Act.put, List.setIfInBounds_toArray, List.set_cons_zero, List.set_cons_succ]
            refine late_take (i := 5) (some 99) rfl rfl (by kernel_rfl) (by kernel_rfl) (by kernel_rfl) (by kernel_rfl) (by kernel_rfl) (fun _ _ _ h => h) (by rfl) (v := ?v5sBz) ?hy5sBz hS ?rest5sBz
            case hy5sBz => intro w0 hSw; (try dsimp only at hSw); obtain ⟨q0, q1, q2, q3, q4, q5, q6, _⟩ := hSw; go_simp; try with_reducible rfl
            simp only [Act.put, List.setIfInBounds_toArray, List.set_cons_zero, List.set_cons_succ]
            refine late_take (i := 6) (some 100) rfl rfl (by kernel_rfl) (by kernel_rfl) (by kernel_rfl) (by kernel_rfl) (by kernel_rfl) (fun _ _ _ h => h) (by rfl) (v := ?v6sBz) ?hy6sBz hS ?rest6sBz
            case hy6sBz => intro w0 hSw; (try dsimp only at hSw); obtain ⟨q0, q1, q2, q3, q4, q5, q6, _⟩ := hSw; go_simp; try with_reducible rfl
            simp only [Act.put, List.setIfInBounds_toArray, List.set_cons_zero, List.set_cons_succ]
            refine late_take (i := 7) (some 101) rfl rfl (by kernel_rfl) (by kernel_rfl) (by kernel_rfl) (by kernel_rfl) (by kernel_rfl) (fun _ _ _ h => h) (by rfl) (v := ?v7sBz) ?hy7sBz hS ?rest7sBz
            case hy7sBz => intro w0 hSw; (try dsimp only at hSw); obtain ⟨q0, q1, q2, q3, q4, q5, q6, _⟩ := hSw; go_simp; try with_reducible rfl
            simp only [Act.put, List.setIfInBounds_toArray, List.set_cons_zero, List.set_cons_succ]
            refine late_take (i := 8) (some 102) rfl rfl (by kernel_rfl) (by kernel_rfl) (by kernel_rfl) (by kernel_rfl) (by kernel_rfl) (fun _ _ _ h => h) (by rfl) (v := ?v8sBz) ?hy8sBz hS ?rest8sBz
            case hy8sBz => intro w0 hSw; (try dsimp only at hSw); obtain ⟨q0, q1, q2, q3, q4, q5, q6, _⟩ := hSw; go_simp; try with_reducible rfl
            simp only [Act.put, List.setIfInBounds_toArray, List.set_cons_zero, List.set_cons_succ]
            refine late_take (i := 9) (some 103) rfl rfl (by kernel_rfl) (by kernel_rfl) (by kernel_rfl) (by kernel_rfl) (by kernel_rfl) (fun _ _ _ h => h) (by rfl) (v := ?v9sBz) ?hy9sBz hS ?rest9sBz
            case hy9sBz => intro w0 hSw; (try dsimp only at hSw); obtain ⟨q0, q1, q2, q3, q4, q5, q6, _⟩ := hSw; go_simp; try with_reducible rfl
            simp only [Act.put, List.setIfInBounds_toArray, List.set_cons_zero, List.set_cons_succ]
            refine late_take (i := 10) (some 104) rfl rfl (by kernel_rfl) (by kernel_rfl) (by kernel_rfl) (by kernel_rfl) (by kernel_rfl) (fun _ _ _ h => h) (by rfl) (v := ?v10sBz) ?hy10sBz hS ?rest10sBz
            case hy10sBz => intro w0 hSw; (try dsimp only at hSw); obtain ⟨q0, q1, q2, q3, q4, q5, q6, _⟩ := hSw; go_simp; try with_reducible rfl
            simp only [Act.put, List.setIfInBounds_toArray, List.set_cons_zero, List.set_cons_succ]
            refine late_take (i := 12) (some 106) rfl rfl (by kernel_rfl) (by kernel_rfl) (by kernel_rfl) (by kernel_rfl) (by kernel_rfl) (fun _ _ _ h => h) (by rfl) (v := ?v12sBz) ?hy12sBz hS ?rest12sBz
            case hy12sBz => intro w0 hSw; (try dsimp only at hSw); obtain ⟨q0, q1, q2, q3, q4, q5, q6, _⟩ := hSw; go_simp; try with_reducible rfl
            simp only [Act.put, List.setIfInBounds_toArray, List.set_cons_zero, List.set_cons_succ]
            refine late_take (i := 13) (some 107) rfl rfl (by kernel_rfl) (by kernel_rfl) (by kernel_rfl) (by kernel_rfl) (by kernel_rfl) (fun _ _ _ h => h) (by rfl) (v := ?v13sBz) ?hy13sBz hS ?rest13sBz
            case hy13sBz => intro w0 hSw; (try dsimp only at hSw); obtain ⟨q0, q1, q2, q3, q4, q5, q6, _⟩ := hSw; go_simp; try with_reducible rfl
            simp only [Act.put, List.setIfInBounds_toArray, List.set_cons_zero, List.set_cons_succ]
            refine wpAnyD_one (i := 11) (by kernel_rfl) rfl (fun K hK => ?_)
            go_simp
            go_at_call 12
            refine (HNm.out _ H5.out.low).mono ?_
            rintro e w6 ⟨rfl, hb6⟩
            have H6 := hid (H5.out.next hb6)
            have hS6 := FS.seven H6.out
            refine hK _ _ ⟨fun _ => hS6, ?_⟩
            clear hK K hb6 hS
            refine late_take (i := 14) (some 108) rfl rfl (by kernel_rfl) (by kernel_rfl) (by kernel_rfl) (by kernel_rfl) (by kernel_rfl) (fun _ _ _ h => h) (by rfl) (v := ?v14sBz) ?hy14sBz hS6 ?rest14sBz
            case hy14sBz => intro w0 hSw; (try dsimp only at hSw); obtain ⟨q0, q1, q2, q3, q4, q5, q6, _⟩ := hSw; go_simp; try with_reducible rfl
            simp only [Act.put, List.setIfInBounds_toArray, List.set_cons_zero, List.set_cons_succ]
            refine late_take (i := 15) (some 109) rfl rfl (by kernel_rfl) (by kernel_rfl) (by kernel_rfl) (by kernel_rfl) (by kernel_rfl) (fun _ _ _ h => h) (by rfl) (v := ?v15sBz) ?hy15sBz hS6 ?rest15sBz
            case hy15sBz => intro w0 hSw; (try dsimp only at hSw); obtain ⟨q0, q1, q2, q3, q4, q5, q6, _⟩ := hSw; go_simp; try with_reducible rfl
            simp only [Act.put, List.setIfInBounds_toArray, List.set_cons_zero, List.set_cons_succ]
            refine late_take (i := 16) (some 110) rfl rfl (by kernel_rfl) (by kernel_rfl) (by kernel_rfl) (by kernel_rfl) (by kernel_rfl) (fun _ _ _ h => h) (by rfl) (v := ?v16sBz) ?hy16sBz hS6 ?rest16sBz
            case hy16sBz => intro w0 hSw; (try dsimp only at hSw); obtain ⟨q0, q1, q2, q3, q4, q5, q6, _⟩ := hSw; go_simp; try with_reducible rfl
            simp only [Act.put, List.setIfInBounds_toArray, List.set_cons_zero, List.set_cons_succ]
            refine late_take (i := 17) (some 111) rfl rfl (by kernel_rfl) (by kernel_rfl) (by kernel_rfl) (by kernel_rfl) (by kernel_rfl) (fun _ _ _ h => h) (by rfl) (v := ?v17sBz) ?hy17sBz hS6 ?rest17sBz
            case hy17sBz => intro w0 hSw; (try dsimp only at hSw); obtain ⟨q0, q1, q2, q3, q4, q5, q6, _⟩ := hSw; go_simp; try with_reducible rfl
            simp only [Act.put, List.setIfInBounds_toArray, List.set_cons_zero, List.set_cons_succ]
            refine late_take (i := 19) (some 113) rfl rfl (by kernel_rfl) (by kernel_rfl) (by kernel_rfl) (by kernel_rfl) (by kernel_rfl) (fun _ _ _ h => h) (by rfl) (v := ?v19sBz) ?hy19sBz hS6 ?rest19sBz
            case hy19sBz => intro w0 hSw; (try dsimp only at hSw); obtain ⟨q0, q1, q2, q3, q4, q5, q6, _⟩ := hSw; go_simp; try with_reducible rfl
            simp only [Act.put, List.setIfInBounds_toArray, List.set_cons_zero, List.set_cons_succ]
            refine late_take (i := 20) (some 114) rfl rfl (by kernel_rfl) (by kernel_rfl) (by kernel_rfl) (by kernel_rfl) (by kernel_rfl) (fun _ _ _ h => h) (by rfl) (v := ?v20sBz) ?hy20sBz hS6 ?rest20sBz
            case hy20sBz => intro w0 hSw; (try dsimp only at hSw); obtain ⟨q0, q1, q2, q3, q4, q5, q6, _⟩ := hSw; go_simp; try with_reducible rfl
            simp only [Act.put, List.setIfInBounds_toArray, List.set_cons_zero, List.set_cons_succ]
            refine wpAnyD_one (i := 18) (by kernel_rfl) rfl (fun K hK => ?_)
            go_simp
            go_at_call 19
            refine (HLn2.out _ _ _ _ H6.out).mono ?_
            rintro e w7 ⟨rfl, hw7⟩
            subst w7
            refine hK _ _ ⟨fun _ => hS6, ?_⟩
            clear hK K
            refine late_take (i := 21) (some 115) rfl rfl (by kernel_rfl) (by kernel_rfl) (by kernel_rfl) (by kernel_rfl) (by kernel_rfl) (fun _ _ _ h => h) (by rfl) (v := ?v21sBz) ?hy21sBz hS6 ?rest21sBz
            case hy21sBz => intro w0 hSw; (try dsimp only at hSw); obtain ⟨q0, q1, q2, q3, q4, q5, q6, _⟩ := hSw; go_simp; try with_reducible rfl
            simp only [Act.put, List.setIfInBounds_toArray, List.set_cons_zero, List.set_cons_succ]
            refine late_take (i := 22) (some 116) rfl rfl (by kernel_rfl) (by kernel_rfl) (by kernel_rfl) (by kernel_rfl) (by kernel_rfl) (fun _ _ _ h => h) (by rfl) (v := ?v22sBz) ?hy22sBz hS6 ?rest22sBz
            case hy22sBz => intro w0 hSw; (try dsimp only at hSw); obtain ⟨q0, q1, q2, q3, q4, q5, q6, _⟩ := hSw; go_simp; try with_reducible rfl
            simp only [Act.put, List.setIfInBounds_toArray, List.set_cons_zero, List.set_cons_succ]
            refine late_done (by kernel_rfl) ?_ _
            refine NoPanic.normal ?_
            have hwi : wrap64 ((i : Int) + 1) = (i : Int) + 1 := by unfold wrap64; omega
            go_wp2
            go_roundg (n - (i + 1) + 1)
            case measure => omega
            case rel => exact ⟨i + 1, G, H1, .slice p4 x4 c4, s1, (by (try rw [hwi]); push_cast; rfl), by omega, rfl, H6.out, HW1.out⟩
      · have h60I : ¬ (i : Int) < 60 := by omega
        have HQ1 := hid (show ∀ W : World, FS w W #[.bool r, .int .i64 m, .slice p n c] g1 g5 F H (.slice vp vn vc) s → _ from fun W h => preqS h.rd HW.out.invP)
        have HQ2 := hid (show ∀ W : World, FS w W #[.bool r, .int .i64 m, .slice p n c] g1 g5 F H (.slice vp vn vc) s → _ from fun W h => dreqS HW.out (.slice vp vn vc) 0 W h.own)
        have HQ3 := hid (show ∀ W : World, FS w W #[.bool r, .int .i64 m, .slice p n c] g1 g5 F H (.slice vp vn vc) s → _ from fun W h => prespS h.rd HW.out.invP)
        have HQ4 := hid (show ∀ W : World, FS w W #[.bool r, .int .i64 m, .slice p n c] g1 g5 F H (.slice vp vn vc) s → _ from fun W h => drespS HW.out (.slice vp vn vc) 0 W h.own)
        unfold headV at HQ2 HQ4
        have hfq := reqS_few HW.out.invP
        have hfp := respS_few HW.out.invP
        have HN1 := hid (show ∀ W : World, Below w.heap.size w W → _ from fun W hb => num_any (reqS s).e W (HE.out.next hb))
        have HN2 := hid (show ∀ W : World, Below w.heap.size w W → _ from fun W hb => num_any (respS s).e W (HE.out.next hb))
        obtain ⟨Q, hQ⟩ : ∃ Q, reqS s = Q := ⟨_, rfl⟩
        obtain ⟨P, hP⟩ : ∃ P, respS s = P := ⟨_, rfl⟩
        rw [hQ] at HQ1 HQ2 HN1 hfq
        rw [hP] at HQ3 HQ4 HN2 hfp
        obtain ⟨QM, QT, Qk, Qf, E1⟩ := Q
        obtain ⟨Ps, PT, Pk, Pf, E2⟩ := P
        dsimp only at HQ1 HQ2 HQ3 HQ4 HN1 HN2 hfq hfp
        obtain ⟨V1, hV1⟩ : ∃ V, errOf E1 = V := ⟨_, rfl⟩
        obtain ⟨V2, hV2⟩ : ∃ V, errOf E2 = V := ⟨_, rfl⟩
        rw [hV1] at HQ1 HN1
        rw [hV2] at HQ3 HN2
        have HSq := hid (show ∀ (W : World) (p p' : Option Addr) (c c' : Nat), FAt W p Qf → FAt W p' Qf → _ from fun W p p' c c' h h' => requests_same (str QM) (str QT) Qk Qf p p' Qf.length c c' rfl W h h' hfq)
        have HSp := hid (show ∀ (W : World) (p p' : Option Addr) (c c' : Nat), FAt W p Pf → FAt W p' Pf → _ from fun W p p' c c' h h' => responses_same Ps (str PT) Pk Pf p p' Pf.length c c' rfl W h h' hfp)
        obtain ⟨M, hM⟩ : ∃ M, str QM = M := ⟨_, rfl⟩
        obtain ⟨T, hT⟩ : ∃ T, str QT = T := ⟨_, rfl⟩
        obtain ⟨S, hS⟩ : ∃ S, str PT = S := ⟨_, rfl⟩
        rw [hM, hT] at HQ1 HQ2 HSq
        rw [hS] at HQ3 HQ4 HSp
        obtain ⟨nq, hnq⟩ : ∃ nq, Qf.length = nq := ⟨_, rfl⟩
        obtain ⟨np, hnp⟩ : ∃ np, Pf.length = np := ⟨_, rfl⟩
        rw [hnq] at HQ1 HQ2 HSq
        rw [hnp] at HQ3 HQ4 HSp
        clear hQ hP hV1 hV2 hM hT hS hnq hnp hfq hfp HW
        go_wp2_with (first | (go_at_call 20; (with_reducible refine (HQ1.out _ HY.out).mono ?_); rintro e w1 ⟨q1, d1, rfl, hf, hb⟩; have K1 := hid (Kept.new (Kept.next (show Kept w _ [] from ⟨HY.out.low, fun x hx => by simp at hx⟩) hb) (.cells #[.string M, .string T, .int .i64 Qk, .slice q1 nq d1] 25 (0, 0))); have HS1 := hid ((HY.out.next hb).next (below_new w1 (.cells #[.string M, .string T, .int .i64 Qk, .slice q1 nq d1] 25 (0, 0)))); have HF1 := hid (hf.next (below_new w1 (.cells #[.string M, .string T, .int .i64 Qk, .slice q1 nq d1] 25 (0, 0)))); clear b0 b1 b2; obtain ⟨x0, x1, x2, x3, x4, x5, x6, _⟩ := FS.seven HS1.out; clear hb hf HQ1) | (go_at_call 8; (with_reducible refine (HQ2.out _ HS1.out).mono ?_); rintro e w2 ⟨q2, d2, rfl, hf, hb⟩; have K2 := hid ((K1.out.next hb).new (.cells #[.string M, .string T, .int .i64 Qk, .slice q2 nq d2] 25 (0, 0))); have HS2 := hid ((HS1.out.next hb).next (below_new w2 (.cells #[.string M, .string T, .int .i64 Qk, .slice q2 nq d2] 25 (0, 0)))); have HF2 := hid (And.intro ((HF1.out.next hb).next (below_new w2 (.cells #[.string M, .string T, .int .i64 Qk, .slice q2 nq d2] 25 (0, 0)))) (hf.next (below_new w2 (.cells #[.string M, .string T, .int .i64 Qk, .slice q2 nq d2] 25 (0, 0))))); clear x0 x1 x2 x3 x4 x5 x6; clear hb hf HQ2) | (go_at_call 21; (with_reducible refine (HQ3.out _ HS2.out).mono ?_); rintro e w3 ⟨q3, d3, rfl, hf, hb⟩; have K3 := hid ((K2.out.next hb).new (.cells #[.int .i64 Ps, .string S, .int .i64 Pk, .slice q3 np d3] 38 (0, 0))); have HS3 := hid ((HS2.out.next hb).next (below_new w3 (.cells #[.int .i64 Ps, .string S, .int .i64 Pk, .slice q3 np d3] 38 (0, 0)))); have HF3 := hid (And.intro ((HF2.out.1.next hb).next (below_new w3 (.cells #[.int .i64 Ps, .string S, .int .i64 Pk, .slice q3 np d3] 38 (0, 0)))) ((HF2.out.2.next hb).next (below_new w3 (.cells #[.int .i64 Ps, .string S, .int .i64 Pk, .slice q3 np d3] 38 (0, 0))))); have HFe := hid (hf.next (below_new w3 (.cells #[.int .i64 Ps, .string S, .int .i64 Pk, .slice q3 np d3] 38 (0, 0)))); obtain ⟨x0, x1, x2, x3, x4, x5, x6, _⟩ := FS.seven HS3.out; clear hb hf HQ3) | (go_at_call 10; (with_reducible refine (HQ4.out _ HS3.out).mono ?_); rintro e w4 ⟨q4, d4, rfl, hf, hb⟩; have K4 := hid ((K3.out.next hb).new (.cells #[.int .i64 Ps, .string S, .int .i64 Pk, .slice q4 np d4] 38 (0, 0))); have HF4 := hid (And.intro ((HF3.out.1.next hb).next (below_new w4 (.cells #[.int .i64 Ps, .string S, .int .i64 Pk, .slice q4 np d4] 38 (0, 0)))) ((HF3.out.2.next hb).next (below_new w4 (.cells #[.int .i64 Ps, .string S, .int .i64 Pk, .slice q4 np d4] 38 (0, 0))))); have HFe4 := hid (And.intro ((HFe.out.next hb).next (below_new w4 (.cells #[.int .i64 Ps, .string S, .int .i64 Pk, .slice q4 np d4] 38 (0, 0)))) (hf.next (below_new w4 (.cells #[.int .i64 Ps, .string S, .int .i64 Pk, .slice q4 np d4] 38 (0, 0))))); clear x0 x1 x2 x3 x4 x5 x6; obtain ⟨y0, y1, y2, y3, _⟩ := cells4 (K4.out.at' (w1.heap.size, (.cells #[.string M, .string T, .int .i64 Qk, .slice q1 nq d1] 25 (0, 0))) (by simp)); obtain ⟨z0, z1, z2, z3, _⟩ := cells4 (K4.out.at' (w2.heap.size, (.cells #[.string M, .string T, .int .i64 Qk, .slice q2 nq d2] 25 (0, 0))) (by simp)); have HC8 := hid (HSq.out _ q1 q2 d1 d2 HF4.out.1 HF4.out.2); clear hb hf HQ4) | (go_at_call 11; (with_reducible refine HC8.out.mono ?_); rintro e w9 ⟨rfl, hb⟩; have K9 := hid (K4.out.next hb); have HF9 := hid (And.intro (HFe4.out.1.next hb) (HFe4.out.2.next hb)); clear hb HC8 y0 y1 y2 y3 z0 z1 z2 z3) | (go_at_call 12; (with_reducible refine (HN1.out _ K9.out.low).mono ?_); rintro e w10 ⟨rfl, hb⟩; have K10 := hid (K9.out.next hb); have HC10 := hid (HSp.out _ q3 q4 d3 d4 (HF9.out.1.next hb) (HF9.out.2.next hb)); obtain ⟨y0, y1, y2, y3, _⟩ := cells4 (K10.out.at' (w3.heap.size, (.cells #[.int .i64 Ps, .string S, .int .i64 Pk, .slice q3 np d3] 38 (0, 0))) (by simp)); obtain ⟨z0, z1, z2, z3, _⟩ := cells4 (K10.out.at' (w4.heap.size, (.cells #[.int .i64 Ps, .string S, .int .i64 Pk, .slice q4 np d4] 38 (0, 0))) (by simp)); clear hb HF9 HN1) | (go_at_call 13; (with_reducible refine HC10.out.mono ?_); rintro e w11 ⟨rfl, hb⟩; have K11 := hid (K10.out.next hb); clear hb HC10 y0 y1 y2 y3 z0 z1 z2 z3) | (go_at_call 12; (with_reducible refine (HN2.out _ K11.out.low).mono ?_); rintro e w12 ⟨rfl, hb⟩; have K12 := hid (K11.out.next hb); clear hb HN2) | (go_at_call 14; (with_reducible refine (HSu.out _).mono ?_); rintro e w13 ⟨rfl, hb⟩; have K13 := hid (K12.out.next hb); clear hb))
        go_ret
        exact ⟨rfl, K13.out.low⟩
    · have hltI : ¬ (i : Int) < (n : Int) := by omega
      have HQ1 := hid (show ∀ W : World, FS w W #[.bool r, .int .i64 m, .slice p n c] g1 g5 F H (.slice vp vn vc) s → _ from fun W h => preqS h.rd HW.out.invP)
      have HQ2 := hid (show ∀ W : World, FS w W #[.bool r, .int .i64 m, .slice p n c] g1 g5 F H (.slice vp vn vc) s → _ from fun W h => dreqS HW.out (.slice vp vn vc) 0 W h.own)
      have HQ3 := hid (show ∀ W : World, FS w W #[.bool r, .int .i64 m, .slice p n c] g1 g5 F H (.slice vp vn vc) s → _ from fun W h => prespS h.rd HW.out.invP)
      have HQ4 := hid (show ∀ W : World, FS w W #[.bool r, .int .i64 m, .slice p n c] g1 g5 F H (.slice vp vn vc) s → _ from fun W h => drespS HW.out (.slice vp vn vc) 0 W h.own)
      unfold headV at HQ2 HQ4
      have hfq := reqS_few HW.out.invP
      have hfp := respS_few HW.out.invP
      have HN1 := hid (show ∀ W : World, Below w.heap.size w W → _ from fun W hb => num_any (reqS s).e W (HE.out.next hb))
      have HN2 := hid (show ∀ W : World, Below w.heap.size w W → _ from fun W hb => num_any (respS s).e W (HE.out.next hb))
      obtain ⟨Q, hQ⟩ : ∃ Q, reqS s = Q := ⟨_, rfl⟩
      obtain ⟨P, hP⟩ : ∃ P, respS s = P := ⟨_, rfl⟩
      rw [hQ] at HQ1 HQ2 HN1 hfq
      rw [hP] at HQ3 HQ4 HN2 hfp
      obtain ⟨QM, QT, Qk, Qf, E1⟩ := Q
      obtain ⟨Ps, PT, Pk, Pf, E2⟩ := P
      dsimp only at HQ1 HQ2 HQ3 HQ4 HN1 HN2 hfq hfp
      obtain ⟨V1, hV1⟩ : ∃ V, errOf E1 = V := ⟨_, rfl⟩
      obtain ⟨V2, hV2⟩ : ∃ V, errOf E2 = V := ⟨_, rfl⟩
      rw [hV1] at HQ1 HN1
      rw [hV2] at HQ3 HN2
      have HSq := hid (show ∀ (W : World) (p p' : Option Addr) (c c' : Nat), FAt W p Qf → FAt W p' Qf → _ from fun W p p' c c' h h' => requests_same (str QM) (str QT) Qk Qf p p' Qf.length c c' rfl W h h' hfq)
      have HSp := hid (show ∀ (W : World) (p p' : Option Addr) (c c' : Nat), FAt W p Pf → FAt W p' Pf → _ from fun W p p' c c' h h' => responses_same Ps (str PT) Pk Pf p p' Pf.length c c' rfl W h h' hfp)
      obtain ⟨M, hM⟩ : ∃ M, str QM = M := ⟨_, rfl⟩
      obtain ⟨T, hT⟩ : ∃ T, str QT = T := ⟨_, rfl⟩
      obtain ⟨S, hS⟩ : ∃ S, str PT = S := ⟨_, rfl⟩
      rw [hM, hT] at HQ1 HQ2 HSq
      rw [hS] at HQ3 HQ4 HSp
      obtain ⟨nq, hnq⟩ : ∃ nq, Qf.length = nq := ⟨_, rfl⟩
      obtain ⟨np, hnp⟩ : ∃ np, Pf.length = np := ⟨_, rfl⟩
      rw [hnq] at HQ1 HQ2 HSq
      rw [hnp] at HQ3 HQ4 HSp
      clear hQ hP hV1 hV2 hM hT hS hnq hnp hfq hfp HW
      go_wp2_with (first | (go_at_call 20; (with_reducible refine (HQ1.out _ HY.out).mono ?_); rintro e w1 ⟨q1, d1, rfl, hf, hb⟩; have K1 := hid (Kept.new (Kept.next (show Kept w _ [] from ⟨HY.out.low, fun x hx => by simp at hx⟩) hb) (.cells #[.string M, .string T, .int .i64 Qk, .slice q1 nq d1] 25 (0, 0))); have HS1 := hid ((HY.out.next hb).next (below_new w1 (.cells #[.string M, .string T, .int .i64 Qk, .slice q1 nq d1] 25 (0, 0)))); have HF1 := hid (hf.next (below_new w1 (.cells #[.string M, .string T, .int .i64 Qk, .slice q1 nq d1] 25 (0, 0)))); clear b0 b1 b2; obtain ⟨x0, x1, x2, x3, x4, x5, x6, _⟩ := FS.seven HS1.out; clear hb hf HQ1) | (go_at_call 8; (with_reducible refine (HQ2.out _ HS1.out).mono ?_); rintro e w2 ⟨q2, d2, rfl, hf, hb⟩; have K2 := hid ((K1.out.next hb).new (.cells #[.string M, .string T, .int .i64 Qk, .slice q2 nq d2] 25 (0, 0))); have HS2 := hid ((HS1.out.next hb).next (below_new w2 (.cells #[.string M, .string T, .int .i64 Qk, .slice q2 nq d2] 25 (0, 0)))); have HF2 := hid (And.intro ((HF1.out.next hb).next (below_new w2 (.cells #[.string M, .string T, .int .i64 Qk, .slice q2 nq d2] 25 (0, 0)))) (hf.next (below_new w2 (.cells #[.string M, .string T, .int .i64 Qk, .slice q2 nq d2] 25 (0, 0))))); clear x0 x1 x2 x3 x4 x5 x6; clear hb hf HQ2) | (go_at_call 21; (with_reducible refine (HQ3.out _ HS2.out).mono ?_); rintro e w3 ⟨q3, d3, rfl, hf, hb⟩; have K3 := hid ((K2.out.next hb).new (.cells #[.int .i64 Ps, .string S, .int .i64 Pk, .slice q3 np d3] 38 (0, 0))); have HS3 := hid ((HS2.out.next hb).next (below_new w3 (.cells #[.int .i64 Ps, .string S, .int .i64 Pk, .slice q3 np d3] 38 (0, 0)))); have HF3 := hid (And.intro ((HF2.out.1.next hb).next (below_new w3 (.cells #[.int .i64 Ps, .string S, .int .i64 Pk, .slice q3 np d3] 38 (0, 0)))) ((HF2.out.2.next hb).next (below_new w3 (.cells #[.int .i64 Ps, .string S, .int .i64 Pk, .slice q3 np d3] 38 (0, 0))))); have HFe := hid (hf.next (below_new w3 (.cells #[.int .i64 Ps, .string S, .int .i64 Pk, .slice q3 np d3] 38 (0, 0)))); obtain ⟨x0, x1, x2, x3, x4, x5, x6, _⟩ := FS.seven HS3.out; clear hb hf HQ3) | (go_at_call 10; (with_reducible refine (HQ4.out _ HS3.out).mono ?_); rintro e w4 ⟨q4, d4, rfl, hf, hb⟩; have K4 := hid ((K3.out.next hb).new (.cells #[.int .i64 Ps, .string S, .int .i64 Pk, .slice q4 np d4] 38 (0, 0))); have HF4 := hid (And.intro ((HF3.out.1.next hb).next (below_new w4 (.cells #[.int .i64 Ps, .string S, .int .i64 Pk, .slice q4 np d4] 38 (0, 0)))) ((HF3.out.2.next hb).next (below_new w4 (.cells #[.int .i64 Ps, .string S, .int .i64 Pk, .slice q4 np d4] 38 (0, 0))))); have HFe4 := hid (And.intro ((HFe.out.next hb).next (below_new w4 (.cells #[.int .i64 Ps, .string S, .int .i64 Pk, .slice q4 np d4] 38 (0, 0)))) (hf.next (below_new w4 (.cells #[.int .i64 Ps, .string S, .int .i64 Pk, .slice q4 np d4] 38 (0, 0))))); clear x0 x1 x2 x3 x4 x5 x6; obtain ⟨y0, y1, y2, y3, _⟩ := cells4 (K4.out.at' (w1.heap.size, (.cells #[.string M, .string T, .int .i64 Qk, .slice q1 nq d1] 25 (0, 0))) (by simp)); obtain ⟨z0, z1, z2, z3, _⟩ := cells4 (K4.out.at' (w2.heap.size, (.cells #[.string M, .string T, .int .i64 Qk, .slice q2 nq d2] 25 (0, 0))) (by simp)); have HC8 := hid (HSq.out _ q1 q2 d1 d2 HF4.out.1 HF4.out.2); clear hb hf HQ4) | (go_at_call 11; (with_reducible refine HC8.out.mono ?_); rintro e w9 ⟨rfl, hb⟩; have K9 := hid (K4.out.next hb); have HF9 := hid (And.intro (HFe4.out.1.next hb) (HFe4.out.2.next hb)); clear hb HC8 y0 y1 y2 y3 z0 z1 z2 z3) | (go_at_call 12; (with_reducible refine (HN1.out _ K9.out.low).mono ?_); rintro e w10 ⟨rfl, hb⟩; have K10 := hid (K9.out.next hb); have HC10 := hid (HSp.out _ q3 q4 d3 d4 (HF9.out.1.next hb) (HF9.out.2.next hb)); obtain ⟨y0, y1, y2, y3, _⟩ := cells4 (K10.out.at' (w3.heap.size, (.cells #[.int .i64 Ps, .string S, .int .i64 Pk, .slice q3 np d3] 38 (0, 0))) (by simp)); obtain ⟨z0, z1, z2, z3, _⟩ := cells4 (K10.out.at' (w4.heap.size, (.cells #[.int .i64 Ps, .string S, .int .i64 Pk, .slice q4 np d4] 38 (0, 0))) (by simp)); clear hb HF9 HN1) | (go_at_call 13; (with_reducible refine HC10.out.mono ?_); rintro e w11 ⟨rfl, hb⟩; have K11 := hid (K10.out.next hb); clear hb HC10 y0 y1 y2 y3 z0 z1 z2 z3) | (go_at_call 12; (with_reducible refine (HN2.out _ K11.out.low).mono ?_); rintro e w12 ⟨rfl, hb⟩; have K12 := hid (K11.out.next hb); clear hb HN2) | (go_at_call 14; (with_reducible refine (HSu.out _).mono ?_); rintro e w13 ⟨rfl, hb⟩; have K13 := hid (K12.out.next hb); clear hb))
      go_ret
      exact ⟨rfl, K13.out.low⟩
theorem feeds_walk (r : Bool) (m : Int) (ls : List B) (p : Option Addr) (n c : Nat) (w : World) (hn : ls.length = n) (hP : PcsAt w p ls) (hnn : n ≤ 140737488355328) (hE : EnvE w) : Calls Tryd.prog 4 #[.agg #[.bool r, .int .i64 m, .slice p n c]] w fun e w' => e = .returned (.bool true) ∧ Below w.heap.size w w' := by
  by_cases hm : 1 ≤ m ∧ m ≤ 65536
  · exact feeds_yes r m ls p n c w hn hm hP hnn hE
  · exact feeds_no r m _ w hm hE p n c rfl
end Go.Proofs.YtfmkkkkdfkjdlaaDoor
