/- The program's reader of bodies: End, Done, Len, Trailers; a whole body. -/
import Derived.Test.YtnlmjlfoeodleaaGreatDoorBFeed
namespace Go.Proofs.YtnlmjlfoeodleaaGreatDoor
open Go.RowKit

theorem turn_still {F : Nat → Prop} {w : World} {g : Nat} {s : BS} {cp : Option Addr} (h : BdAt F w g s cp) : TurnX F w w g s (fun k => F k ∧ k < w.heap.size) cp := ⟨h.trim, Only.refl _ _, fun _ hk => .inl hk.1, fun _ hk => hk.2⟩
def EndAns (F : Nat → Prop) (w : World) (g : Nat) (s : BS) (cp : Option Addr) (e : Ending) (w' : World) : Prop :=
  e = .returned (errOf (shutX s).err) ∧ TurnX F w w' g (shutX s) (fun k => F k ∧ k < w.heap.size) cp
theorem shut_over {s : BS} (h : overX s = true) : shutX s = s := by unfold shutX; rw [if_pos h]
theorem shut_3 {s : BS} (h : overX s = false) (h3 : s.kind = 3) : shutX s = { s with done := true } := by unfold shutX; rw [if_neg (by rw [h]; decide), if_pos h3]
theorem shut_no {s : BS} (h : overX s = false) (h3 : s.kind ≠ 3) : shutX s = { s with err := 32 } := by unfold shutX; rw [if_neg (by rw [h]; decide), if_neg h3]
set_option maxRecDepth 20000 in
set_option maxHeartbeats 8000000 in
theorem end_o1 {F : Nat → Prop} {w : World} {g : Nat} {s : BS} {cp : Option Addr} (h : BdAt F w g s cp) (hn0 : overX s = true) (hD : s.done = true) (hE : errOf s.err = .nilIface) :
    Calls Tryz.prog 14 #[.pointer (some ⟨g, 0, none⟩)] w (EndAns F w g s cp) := by
  have k4 := h.cells.a4
  have k5 := h.cells.a5
  rw [hD] at k4
  rw [hE] at k5
  have HA := hid (show errOf (shutX s).err = .nilIface ∧ TurnX F w w g (shutX s) (fun k => F k ∧ k < w.heap.size) cp from ⟨by rw [shut_over hn0]; exact hE, by rw [shut_over hn0]; exact turn_still h⟩)
  clear h hn0 hD hE
  go_enter Tryz.func14, Tryz.ntmps14
  go_wp2
  (try simp only [Exit.inBlock, Exit.then])
  go_ret
  exact ⟨by rw [HA.out.1]; rfl, HA.out.2⟩
set_option maxRecDepth 20000 in
set_option maxHeartbeats 8000000 in
theorem end_o2 {F : Nat → Prop} {w : World} {g : Nat} {s : BS} {cp : Option Addr} (h : BdAt F w g s cp) (hn0 : overX s = true) (hD : s.done = true) (hE : errOf s.err = .iface 72 (.int .i64 (s.err : Int))) :
    Calls Tryz.prog 14 #[.pointer (some ⟨g, 0, none⟩)] w (EndAns F w g s cp) := by
  have k4 := h.cells.a4
  have k5 := h.cells.a5
  rw [hD] at k4
  rw [hE] at k5
  have HA := hid (show errOf (shutX s).err = .iface 72 (.int .i64 (s.err : Int)) ∧ TurnX F w w g (shutX s) (fun k => F k ∧ k < w.heap.size) cp from ⟨by rw [shut_over hn0]; exact hE, by rw [shut_over hn0]; exact turn_still h⟩)
  clear h hn0 hD hE
  go_enter Tryz.func14, Tryz.ntmps14
  go_wp2
  (try simp only [Exit.inBlock, Exit.then])
  go_ret
  exact ⟨by rw [HA.out.1]; rfl, HA.out.2⟩
set_option maxRecDepth 20000 in
set_option maxHeartbeats 8000000 in
theorem end_o3 {F : Nat → Prop} {w : World} {g : Nat} {s : BS} {cp : Option Addr} (h : BdAt F w g s cp) (hn0 : overX s = true) (hD : s.done = false) (hE : errOf s.err = .iface 72 (.int .i64 (s.err : Int))) :
    Calls Tryz.prog 14 #[.pointer (some ⟨g, 0, none⟩)] w (EndAns F w g s cp) := by
  have k4 := h.cells.a4
  have k5 := h.cells.a5
  rw [hD] at k4
  rw [hE] at k5
  have HA := hid (show errOf (shutX s).err = .iface 72 (.int .i64 (s.err : Int)) ∧ TurnX F w w g (shutX s) (fun k => F k ∧ k < w.heap.size) cp from ⟨by rw [shut_over hn0]; exact hE, by rw [shut_over hn0]; exact turn_still h⟩)
  clear h hn0 hD hE
  go_enter Tryz.func14, Tryz.ntmps14
  go_wp2
  (try simp only [Exit.inBlock, Exit.then])
  go_ret
  exact ⟨by rw [HA.out.1]; rfl, HA.out.2⟩
set_option maxRecDepth 20000 in
set_option maxHeartbeats 8000000 in
theorem end_3 {F : Nat → Prop} {w : World} {g : Nat} {s : BS} {cp : Option Addr} (h : BdAt F w g s cp) (hn0 : overX s = false) (h3 : s.kind = 3) :
    Calls Tryz.prog 14 #[.pointer (some ⟨g, 0, none⟩)] w (EndAns F w g s cp) := by
  obtain ⟨k0, _, _, _, k4, k5, kz⟩ := h.cells
  obtain ⟨hd0, he0⟩ := over_no hn0
  rw [hd0] at k4
  rw [he0, errOf_zero] at k5
  rw [h3] at k0
  have k0 : w.cell? ⟨g, 0, none⟩ = some (.int .i64 3) := k0
  have z4 := kz 4
  have z5 := kz 5
  have HX := hid (shut_3 hn0 h3)
  have HT := hid (turn_still h)
  have HFo := hid h.own
  clear h hn0 hd0 kz
  have HEr := hid he0
  clear he0
  go_enter Tryz.func14, Tryz.ntmps14
  go_wp2
  (try simp only [Exit.inBlock, Exit.then])
  (try go_wp2)
  go_ret
  exact ⟨by rw [HX.out]; show _ = Ending.returned (errOf s.err); rw [HEr.out]; rfl, by rw [HX.out]; exact HT.out.put HFo.out 4 (.bool true) (by unfold bdC; simp) rfl rfl⟩
set_option maxRecDepth 20000 in
set_option maxHeartbeats 8000000 in
theorem end_n {F : Nat → Prop} {w : World} {g : Nat} {s : BS} {cp : Option Addr} (h : BdAt F w g s cp) (hn0 : overX s = false) (h3 : s.kind ≠ 3) :
    Calls Tryz.prog 14 #[.pointer (some ⟨g, 0, none⟩)] w (EndAns F w g s cp) := by
  obtain ⟨k0, _, _, _, k4, k5, kz⟩ := h.cells
  obtain ⟨hd0, he0⟩ := over_no hn0
  rw [hd0] at k4
  rw [he0, errOf_zero] at k5
  have j3 : ((s.kind : Int) == 3) = false := by simp; omega
  have z4 := kz 4
  have z5 := kz 5
  have HX := hid (shut_no hn0 h3)
  have HT := hid (turn_still h)
  have HFo := hid h.own
  clear h hn0 hd0 kz
  have HEr := hid he0
  clear he0
  go_enter Tryz.func14, Tryz.ntmps14
  go_wp2
  (try simp only [Exit.inBlock, Exit.then])
  (try go_wp2)
  go_ret
  exact ⟨by rw [HX.out]; rfl, by rw [HX.out]; exact HT.out.put HFo.out 5 _ (by unfold bdC; simp [errOf]) rfl rfl⟩
theorem end_any {F : Nat → Prop} {w : World} {g : Nat} {s : BS} {cp : Option Addr} (h : BdAt F w g s cp) : Calls Tryz.prog 14 #[.pointer (some ⟨g, 0, none⟩)] w (EndAns F w g s cp) := by
  cases hn0 : overX s with
  | false =>
    by_cases h3 : s.kind = 3
    · exact end_3 h hn0 h3
    · exact end_n h hn0 h3
  | true =>
    rcases err_cases s.err with ⟨h6, h5⟩ | ⟨_, h5⟩
    · refine end_o1 h hn0 ?_ h5
      unfold overX at hn0
      simpa [h6] using hn0
    · cases hd : s.done with
      | true => exact end_o2 h hn0 hd h5
      | false => exact end_o3 h hn0 hd h5
set_option maxRecDepth 20000 in
set_option maxHeartbeats 8000000 in
theorem donex_any (g : Nat) (D : Bool) (w : World) (k4 : w.cell? ⟨g, 4, none⟩ = some (.bool D)) : Calls Tryz.prog 13 #[.pointer (some ⟨g, 0, none⟩)] w fun e w' => e = .returned (.bool D) ∧ w' = w := by
  go_enter Tryz.func13, Tryz.ntmps13
  go_wp2
  go_ret
  exact ⟨rfl, rfl⟩
set_option maxRecDepth 20000 in
set_option maxHeartbeats 8000000 in
theorem lenx_any (g : Nat) (T : Int) (w : World) (k3 : w.cell? ⟨g, 3, none⟩ = some (.int .i64 T)) : Calls Tryz.prog 12 #[.pointer (some ⟨g, 0, none⟩)] w fun e w' => e = .returned (.int .i64 T) ∧ w' = w := by
  go_enter Tryz.func12, Tryz.ntmps12
  go_wp2
  go_ret
  exact ⟨rfl, rfl⟩
def trX (s : BS) : List (B × B) := if s.done = true ∧ s.kind = 2 then s.ck.tr else []
set_option maxRecDepth 20000 in
set_option maxHeartbeats 8000000 in
theorem trx_no (g : Nat) (w : World) (k4 : w.cell? ⟨g, 4, none⟩ = some (.bool false)) : Calls Tryz.prog 17 #[.pointer (some ⟨g, 0, none⟩)] w fun e w' => e = .returned (.slice none 0 0) ∧ w' = w := by
  have HD := hid (donex_any g false w k4)
  go_enter Tryz.func17, Tryz.ntmps17
  go_wp2_with (go_at_call 13; (with_reducible refine HD.out.mono ?_); rintro e w1 ⟨rfl, hw1⟩; subst w1)
  go_ret
  exact ⟨rfl, rfl⟩
set_option maxRecDepth 20000 in
set_option maxHeartbeats 8000000 in
theorem trx_nil (g : Nat) (w : World) (k4 : w.cell? ⟨g, 4, none⟩ = some (.bool true)) (k2 : w.cell? ⟨g, 2, none⟩ = some (.pointer none)) : Calls Tryz.prog 17 #[.pointer (some ⟨g, 0, none⟩)] w fun e w' => e = .returned (.slice none 0 0) ∧ w' = w := by
  have HD := hid (donex_any g true w k4)
  have HT := hid (nil_trailers w)
  go_enter Tryz.func17, Tryz.ntmps17
  go_wp2_with (first | (go_at_call 13; (with_reducible refine HD.out.mono ?_); rintro e w1 ⟨rfl, hw1⟩; subst w1) | (go_at_call 35; (with_reducible refine HT.out.mono ?_); rintro e w1 ⟨rfl, hw1⟩; subst w1))
  go_ret
  exact ⟨rfl, rfl⟩
set_option maxRecDepth 20000 in
set_option maxHeartbeats 8000000 in
theorem trx_yes {G : Nat → Prop} (g gk : Nat) (s : KS) (w : World) (k4 : w.cell? ⟨g, 4, none⟩ = some (.bool true)) (k2 : w.cell? ⟨g, 2, none⟩ = some (.pointer (some ⟨gk, 0, none⟩))) (hr : RdAt G w gk s) (ht : s.tr.length ≤ 64) : Calls Tryz.prog 17 #[.pointer (some ⟨g, 0, none⟩)] w fun e w' => ∃ q d, e = .returned (.slice q s.tr.length d) ∧ OwnF w' w.heap.size (.slice q s.tr.length d) s.tr ∧ Below w.heap.size w w' := by
  have HD := hid (donex_any g true w k4)
  have HT := hid (trailers_any hr ht)
  obtain ⟨tn, htn⟩ : ∃ tn, s.tr.length = tn := ⟨_, rfl⟩
  rw [htn] at HT
  rw [htn]
  clear htn ht hr
  go_enter Tryz.func17, Tryz.ntmps17
  go_wp2_with (first | (go_at_call 13; (with_reducible refine HD.out.mono ?_); rintro e w1 ⟨rfl, hw1⟩; subst w1; clear HD) | (go_at_call 35; (with_reducible refine HT.out.mono ?_); rintro e w1 ⟨q, d, rfl, ho, hb⟩; have HO := hid ho; have HB := hid hb; clear HT ho hb))
  go_ret
  exact ⟨q, d, rfl, HO.out, HB.out⟩
theorem trailersx_any {F : Nat → Prop} {w : World} {g : Nat} {s : BS} {cp : Option Addr} (h : BdAt F w g s cp) (hi : InvX s) : Calls Tryz.prog 17 #[.pointer (some ⟨g, 0, none⟩)] w fun e w' => ∃ q d, e = .returned (.slice q (trX s).length d) ∧ OwnF w' w.heap.size (.slice q (trX s).length d) (trX s) ∧ Below w.heap.size w w' := by
  have k4 := h.cells.a4
  have k2 := h.cells.a2
  cases hd : s.done with
  | false =>
    rw [hd] at k4
    rw [show trX s = [] from by unfold trX; rw [if_neg (by rw [hd]; simp)]]
    refine (trx_no g w k4).mono ?_
    rintro e w' ⟨rfl, hw⟩
    subst w'
    exact ⟨none, 0, rfl, OwnF.nil _ _, Below.refl _ _⟩
  | true =>
    rw [hd] at k4
    rcases h.ch with ⟨h1, gk, G, h2, h3, h4⟩ | ⟨h1, h2⟩
    · rw [h2] at k2
      rw [show trX s = s.ck.tr from by unfold trX; rw [if_pos ⟨hd, h1⟩]]
      exact trx_yes g gk s.ck w k4 k2 h3 (hi.ck h1).1.tr
    · rw [h2] at k2
      rw [show trX s = [] from by unfold trX; rw [if_neg (fun h9 => h1 h9.2)]]
      refine (trx_nil g w k4 k2).mono ?_
      rintro e w' ⟨rfl, hw⟩
      subst w'
      exact ⟨none, 0, rfl, OwnF.nil _ _, Below.refl _ _⟩
def wholeX (K N m : Int) (l : B) : Nat := if newE K N m = 0 then (shutX (fedX (newX K N m) l)).err else newE K N m
def WholeAns (K N m : Int) (l : B) (w : World) (e : Ending) (w' : World) : Prop :=
  (wholeX K N m l ≠ 0 ∧ e = .returned (.tuple #[.slice none 0 0, .int .i64 0, errOf (wholeX K N m l)]) ∧ Below w.heap.size w w') ∨
  (wholeX K N m l = 0 ∧ ∃ q d, e = .returned (.tuple #[.slice q (saidX (newX K N m) l).length d, .int .i64 (tookX (newX K N m) l : Int), .nilIface]) ∧ Own w' w.heap.size (.slice q (saidX (newX K N m) l).length d) (saidX (newX K N m) l) ∧ Below w.heap.size w w')
theorem results_tmp3x {fn : Func} {t u v : Tmp} (h : fn.results = #[.tmp t, .tmp u, .tmp v]) (tmps : Array Value) (P : Program) (w : World) :
    (results fn tmps).run P w = .ok (.tuple #[tmps.getD t undef, tmps.getD u undef, tmps.getD v undef]) w := by
  simp [results, h]
set_option maxRecDepth 20000 in
set_option maxHeartbeats 8000000 in
theorem wholex_no (K N m : Int) (h9 : m ≤ 9223372036854775807) (l : B) (p : Option Addr) (n c : Nat) (w : World) (hE : EnvP w) (h0 : newE K N m ≠ 0) : Calls Tryz.prog 32 #[.agg #[.int .i64 K, .int .i64 N], .int .i64 m, .slice p n c] w (WholeAns K N m l w) := by
  have HB0 := hid (below_new w (frmO K N))
  have HW := hid (show wholeX K N m l = newE K N m from by unfold wholeX; rw [if_neg h0])
  have HNw := hid (show ∀ W : World, Below w.heap.size w W → Calls Tryz.prog 6 #[.agg #[.int .i64 K, .int .i64 N], .int .i64 m] W fun e w' => e = .returned (.tuple #[.pointer none, .iface 72 (.int .i64 (newE K N m : Int))]) ∧ Below w.heap.size w w' from fun W hb => (new_any K N m h9 W (hE.next hb)).mono (by
    rintro e w' (⟨_, rfl, hb2⟩ | ⟨h1, _⟩)
    · rw [errOf_pos h0]; exact ⟨rfl, below_out hb hb2⟩
    · exact absurd h1 h0))
  have H0 := hid h0
  clear hE h9 h0
  go_enter Tryz.func32, Tryz.ntmps32
  go_wp2_with (go_at_call 6; (with_reducible refine (HNw.out _ HB0.out).mono ?_); rintro e w1 ⟨rfl, hb⟩; have HB1 := hid hb; clear hb)
  refine bodyPost_ret (results_tmp3x rfl _ _ _) rfl ?_
  exact .inl ⟨by rw [HW.out]; exact H0.out, by rw [HW.out, errOf_pos H0.out]; rfl, HB1.out⟩
set_option maxRecDepth 20000 in
set_option maxHeartbeats 8000000 in
theorem wholex_e (K N m : Int) (h9 : m ≤ 9223372036854775807) (l : B) (p : Option Addr) (n c : Nat) (hn : l.length = n) (hnc : n ≤ c) (hpc : p = none → c = 0) (hl : n ≤ 140737488355328) (w : World) (ha : ArgAt w p l) (hE : EnvP w) (h0 : newE K N m = 0) (hr2 : (shutX (fedX (newX K N m) l)).err ≠ 0) (hr : errOf (shutX (fedX (newX K N m) l)).err = .iface 72 (.int .i64 ((shutX (fedX (newX K N m) l)).err : Int))) : Calls Tryz.prog 32 #[.agg #[.int .i64 K, .int .i64 N], .int .i64 m, .slice p n c] w (WholeAns K N m l w) := by
  have HB0 := hid (below_new w (frmO K N))
  have HW := hid (show wholeX K N m l = (shutX (fedX (newX K N m) l)).err from by unfold wholeX; rw [if_pos h0])
  have HNw := hid (show ∀ W : World, Below w.heap.size w W → Calls Tryz.prog 6 #[.agg #[.int .i64 K, .int .i64 N], .int .i64 m] W fun e w' => ∃ g cp, e = .returned (.tuple #[.pointer (some ⟨g, 0, none⟩), .nilIface]) ∧ BdAt (fun k => w.heap.size ≤ k ∧ k < w'.heap.size) w' g (newX K N m) cp ∧ Below w.heap.size w w' from fun W hb => (new_any K N m h9 W (hE.next hb)).mono (by
    rintro e w' (⟨h1, _⟩ | ⟨_, g, cp, rfl, hd, hb2⟩)
    · exact absurd h0 h1
    · exact ⟨g, cp, rfl, hd.wide (fun k hk => ⟨Nat.le_trans hb.size hk.1, hk.2⟩), below_out hb hb2⟩))
  have HIv := hid (inv_new h0 h9)
  obtain ⟨T, hT⟩ : ∃ T, tookX (newX K N m) l = T := ⟨_, rfl⟩
  obtain ⟨M, hM⟩ : ∃ M, (saidX (newX K N m) l).length = M := ⟨_, rfl⟩
  have HFd := hid (show ∀ (w1 : World) (g : Nat) (cp : Option Addr), BdAt (fun k => w.heap.size ≤ k ∧ k < w1.heap.size) w1 g (newX K N m) cp → Below w.heap.size w w1 → Calls Tryz.prog 10 #[.pointer (some ⟨g, 0, none⟩), .slice p n c] w1 fun e w' => ∃ D E q d G cp2, e = .returned (.tuple #[.int .i64 (T : Int), .slice q M d, .bool D, E]) ∧ FedXG (fun k => w.heap.size ≤ k ∧ k < w1.heap.size) w1 w' g (fedX (newX K N m) l) (saidX (newX K N m) l) G cp2 (.slice q M d) from fun w1 g cp hd hb => (feedx_any hd (inv_new h0 h9) l p n c hn hnc hpc (ha.next hb) (ha.out (fun k hk => hk.1)) hl).mono (by
    rintro e w' ⟨q, d, G, cp2, rfl, hG⟩
    rw [hT, hM]
    rw [hM] at hG
    exact ⟨_, _, q, d, G, cp2, rfl, hG⟩))
  have HEn := hid (show ∀ (G : Nat → Prop) (w2 : World) (g : Nat) (cp : Option Addr), BdAt G w2 g (fedX (newX K N m) l) cp → Calls Tryz.prog 14 #[.pointer (some ⟨g, 0, none⟩)] w2 fun e w' => e = .returned (.iface 72 (.int .i64 ((shutX (fedX (newX K N m) l)).err : Int))) ∧ Only G w2 w' from fun G w2 g cp hd => (end_any hd).mono (by
    rintro e w' ⟨rfl, ht⟩
    exact ⟨by rw [hr], ht.only⟩))
  have HT := hid hT
  have HM := hid hM
  have HR := hid hr
  have HR2 := hid hr2
  clear hn hnc hpc hl ha hE h9 h0 hT hM hr hr2
  go_enter Tryz.func32, Tryz.ntmps32
  go_wp2_with (first | (go_at_call 6; (with_reducible refine (HNw.out _ HB0.out).mono ?_); rintro e w1 ⟨g, cp, rfl, hd, hb⟩; have HB1 := hid hb; have HF1 := hid (HFd.out w1 g cp hd hb); clear hb hd HNw HFd) | (go_at_call 10; (with_reducible refine HF1.out.mono ?_); rintro e w2 ⟨D, E, q, d, G, cp2, rfl, hG⟩; have HG := hid hG; have HE2 := hid (HEn.out G w2 g cp2 hG.t.bd); clear hG HF1 HEn) | (go_at_call 14; (with_reducible refine HE2.out.mono ?_); rintro e w3 ⟨rfl, ho⟩; have HO := hid ho; clear ho HE2))
  refine bodyPost_ret (results_tmp3x rfl _ _ _) rfl ?_
  have hb3 : Below w.heap.size w w3 := (HB1.out.trans (HG.out.t.only.below (fun k hk => hk.1) HB1.out.size)).trans (HO.out.below (fun k hk => by rcases HG.out.t.sub k hk with h5 | h5; exact h5.1; exact Nat.le_trans HB1.out.size h5) (Nat.le_trans HB1.out.size HG.out.t.only.size))
  exact .inl ⟨by rw [HW.out]; exact HR2.out, by rw [HW.out, HR.out]; rfl, hb3⟩
set_option maxRecDepth 20000 in
set_option maxHeartbeats 8000000 in
theorem wholex_y (K N m : Int) (h9 : m ≤ 9223372036854775807) (l : B) (p : Option Addr) (n c : Nat) (hn : l.length = n) (hnc : n ≤ c) (hpc : p = none → c = 0) (hl : n ≤ 140737488355328) (w : World) (ha : ArgAt w p l) (hE : EnvP w) (h0 : newE K N m = 0) (hr2 : (shutX (fedX (newX K N m) l)).err = 0) (hr : errOf (shutX (fedX (newX K N m) l)).err = .nilIface) : Calls Tryz.prog 32 #[.agg #[.int .i64 K, .int .i64 N], .int .i64 m, .slice p n c] w (WholeAns K N m l w) := by
  have HB0 := hid (below_new w (frmO K N))
  have HW := hid (show wholeX K N m l = (shutX (fedX (newX K N m) l)).err from by unfold wholeX; rw [if_pos h0])
  have HNw := hid (show ∀ W : World, Below w.heap.size w W → Calls Tryz.prog 6 #[.agg #[.int .i64 K, .int .i64 N], .int .i64 m] W fun e w' => ∃ g cp, e = .returned (.tuple #[.pointer (some ⟨g, 0, none⟩), .nilIface]) ∧ BdAt (fun k => w.heap.size ≤ k ∧ k < w'.heap.size) w' g (newX K N m) cp ∧ Below w.heap.size w w' from fun W hb => (new_any K N m h9 W (hE.next hb)).mono (by
    rintro e w' (⟨h1, _⟩ | ⟨_, g, cp, rfl, hd, hb2⟩)
    · exact absurd h0 h1
    · exact ⟨g, cp, rfl, hd.wide (fun k hk => ⟨Nat.le_trans hb.size hk.1, hk.2⟩), below_out hb hb2⟩))
  have HIv := hid (inv_new h0 h9)
  obtain ⟨T, hT⟩ : ∃ T, tookX (newX K N m) l = T := ⟨_, rfl⟩
  obtain ⟨M, hM⟩ : ∃ M, (saidX (newX K N m) l).length = M := ⟨_, rfl⟩
  have HFd := hid (show ∀ (w1 : World) (g : Nat) (cp : Option Addr), BdAt (fun k => w.heap.size ≤ k ∧ k < w1.heap.size) w1 g (newX K N m) cp → Below w.heap.size w w1 → Calls Tryz.prog 10 #[.pointer (some ⟨g, 0, none⟩), .slice p n c] w1 fun e w' => ∃ D E q d G cp2, e = .returned (.tuple #[.int .i64 (T : Int), .slice q M d, .bool D, E]) ∧ FedXG (fun k => w.heap.size ≤ k ∧ k < w1.heap.size) w1 w' g (fedX (newX K N m) l) (saidX (newX K N m) l) G cp2 (.slice q M d) from fun w1 g cp hd hb => (feedx_any hd (inv_new h0 h9) l p n c hn hnc hpc (ha.next hb) (ha.out (fun k hk => hk.1)) hl).mono (by
    rintro e w' ⟨q, d, G, cp2, rfl, hG⟩
    rw [hT, hM]
    rw [hM] at hG
    exact ⟨_, _, q, d, G, cp2, rfl, hG⟩))
  have HEn := hid (show ∀ (G : Nat → Prop) (w2 : World) (g : Nat) (cp : Option Addr), BdAt G w2 g (fedX (newX K N m) l) cp → Calls Tryz.prog 14 #[.pointer (some ⟨g, 0, none⟩)] w2 fun e w' => e = .returned (.nilIface) ∧ Only G w2 w' from fun G w2 g cp hd => (end_any hd).mono (by
    rintro e w' ⟨rfl, ht⟩
    exact ⟨by rw [hr], ht.only⟩))
  have HT := hid hT
  have HM := hid hM
  have HR := hid hr
  have HR2 := hid hr2
  clear hn hnc hpc hl ha hE h9 h0 hT hM hr hr2
  go_enter Tryz.func32, Tryz.ntmps32
  go_wp2_with (first | (go_at_call 6; (with_reducible refine (HNw.out _ HB0.out).mono ?_); rintro e w1 ⟨g, cp, rfl, hd, hb⟩; have HB1 := hid hb; have HF1 := hid (HFd.out w1 g cp hd hb); clear hb hd HNw HFd) | (go_at_call 10; (with_reducible refine HF1.out.mono ?_); rintro e w2 ⟨D, E, q, d, G, cp2, rfl, hG⟩; have HG := hid hG; have HE2 := hid (HEn.out G w2 g cp2 hG.t.bd); clear hG HF1 HEn) | (go_at_call 14; (with_reducible refine HE2.out.mono ?_); rintro e w3 ⟨rfl, ho⟩; have HO := hid ho; clear ho HE2))
  refine bodyPost_ret (results_tmp3x rfl _ _ _) rfl ?_
  have hb3 : Below w.heap.size w w3 := (HB1.out.trans (HG.out.t.only.below (fun k hk => hk.1) HB1.out.size)).trans (HO.out.below (fun k hk => by rcases HG.out.t.sub k hk with h5 | h5; exact h5.1; exact Nat.le_trans HB1.out.size h5) (Nat.le_trans HB1.out.size HG.out.t.only.size))
  refine .inr ⟨by rw [HW.out]; exact HR2.out, q, d, by rw [HT.out, HM.out]; rfl, ?_, hb3⟩
  rw [HM.out]
  refine own_only (own_base HG.out.body HB1.out.size) HO.out (fun k e hk => HG.out.out k e hk)
theorem wholex_any (K N m : Int) (h9 : m ≤ 9223372036854775807) (l : B) (p : Option Addr) (n c : Nat) (hn : l.length = n) (hnc : n ≤ c) (hpc : p = none → c = 0) (hl : n ≤ 140737488355328) (w : World) (ha : ArgAt w p l) (hE : EnvP w) : Calls Tryz.prog 32 #[.agg #[.int .i64 K, .int .i64 N], .int .i64 m, .slice p n c] w (WholeAns K N m l w) := by
  by_cases h0 : newE K N m = 0
  · rcases err_cases (shutX (fedX (newX K N m) l)).err with ⟨h1, h2⟩ | ⟨h1, h2⟩
    · exact wholex_y K N m h9 l p n c hn hnc hpc hl w ha hE h0 h1 h2
    · exact wholex_e K N m h9 l p n c hn hnc hpc hl w ha hE h0 h1 h2
  · exact wholex_no K N m h9 l p n c w hE h0
end Go.Proofs.YtnlmjlfoeodleaaGreatDoor
