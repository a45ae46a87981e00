/- The program's reader of bodies: Feed. -/
import Derived.Test.YtnlmjlfoeodleaaGreatDoorBNew
import Derived.BigQuiet
namespace Go.Proofs.YtnlmjlfoeodleaaGreatDoor
open Go.RowKit

theorem fed_told (s : BS) (l : B) : (fedX s l).told = s.told + (saidX s l).length ∧ (fedX s l).kind = s.kind := by
  cases hn : overX s with
  | true => rw [(over_yes hn l).1, (over_yes hn l).2.2]; exact ⟨rfl, rfl⟩
  | false =>
    by_cases e2 : s.kind = 2
    · rw [(fed_2 hn e2 l).1, (fed_2 hn e2 l).2.2]; exact ⟨rfl, rfl⟩
    · by_cases e1 : s.kind = 1
      · rw [(fed_1 hn e1 l).1, (fed_1 hn e1 l).2.2, List.length_take]; exact ⟨by dsimp only; omega, rfl⟩
      · rw [(fed_3 hn e2 e1 l).1, (fed_3 hn e2 e1 l).2.2, List.length_take]; exact ⟨by dsimp only; omega, rfl⟩
theorem InvX.small {s : BS} (h : InvX s) : s.told ≤ 9223372036854775807 := by
  by_cases e2 : s.kind = 2
  · obtain ⟨h1, h2⟩ := h.ck e2
    have := h1.told
    have := h1.most
    omega
  · have := h.room e2
    omega
/-- Only told is not counted yet. -/
def takX (s : BS) (l : B) : BS := { fedX s l with told := s.told }
theorem Only.mono {F G : Nat → Prop} {w w' : World} (h : Only F w w') (hs : ∀ k, F k → G k) : Only G w w' := ⟨h.os, h.tape, h.output, h.size, fun k hk hf => h.block k hk (fun hg => hf (hs k hg))⟩
/-- The chunks' reader was fed. -/
theorem bd_fed {F Gk G1 : Nat → Prop} {w w1 : World} {g gk : Nat} {s : BS} {l : B} {v : Value} (h : BdAt F w g s (some ⟨gk, 0, none⟩)) (h2 : s.kind = 2) (hs : ∀ k, Gk k → F k ∧ k ≠ g) (hG : FedG Gk w w1 gk s.ck l G1 v) : FedXG F w w1 g { s with ck := feedK s.ck l } (feedB s.ck l) (fun k => k = g ∨ G1 k) (some ⟨gk, 0, none⟩) v := by
  have hg := h.lt
  refine ⟨⟨⟨(hG.only.block g hg (fun e => (hs g e).2 rfl)).trans h.blk, .inl rfl, .inl ⟨h2, gk, G1, rfl, hG.rd, fun k hk => ⟨.inr hk, fun e => ?_⟩⟩⟩, hG.only.mono (fun k hk => (hs k hk).1), fun k hk => ?_, fun k hk => ?_⟩, hG.body, fun k e hk => ?_⟩
  · subst e
    rcases hG.sub k hk with h3 | h3
    · exact (hs k h3).2 rfl
    · omega
  · rcases hk with rfl | hk
    · exact .inl h.own
    · rcases hG.sub k hk with h3 | h3
      · exact .inl (hs k h3).1
      · exact .inr h3
  · rcases hk with rfl | hk
    · exact Nat.lt_of_lt_of_le hg hG.only.size
    · exact hG.lt k hk
  · rcases hk with rfl | hk
    · have := own_ge hG.body e; omega
    · exact hG.out k e hk
/-- Bytes were copied. -/
theorem bd_copied {F : Nat → Prop} {w w1 : World} {g n d : Nat} {s : BS} {L : B} {cp q : Option Addr} (h : BdAt F w g s cp) (hb : Below w.heap.size w w1) (ho : Own w1 w.heap.size (.slice q n d) L) : FedXG F w w1 g s L (fun k => F k ∧ k < w.heap.size) cp (.slice q n d) :=
  ⟨⟨h.trim.next hb, Only.of_below hb, fun k hk => .inl hk.1, fun k hk => Nat.lt_of_lt_of_le hk.2 hb.size⟩, ho, fun k e hk => by have := own_ge ho e; omega⟩
def TakAns (F : Nat → Prop) (w : World) (g : Nat) (s : BS) (l : B) (e : Ending) (w' : World) : Prop :=
  ∃ q d G cp, e = .returned (.tuple #[.int .i64 (tookX s l : Int), .slice q (saidX s l).length d]) ∧ FedXG F w w' g (takX s l) (saidX s l) G cp (.slice q (saidX s l).length d)
set_option maxRecDepth 20000 in
set_option maxHeartbeats 8000000 in
theorem take_2a {F : Nat → Prop} {w : World} {g : Nat} {s : BS} {cp : Option Addr} (h : BdAt F w g s cp) (hi : InvX s) (hn0 : overX s = false) (h2 : s.kind = 2) (l : B) (p : Option Addr) (n c : Nat) (hn : l.length = n) (hnc : n ≤ c) (ha : ArgAt w p l) (hp : ArgOut F p l) (hl : n ≤ 140737488355328) (hE : errOf (feedK s.ck l).err = .nilIface) :
    Calls Tryz.prog 33 #[.pointer (some ⟨g, 0, none⟩), .slice p n c] w (TakAns F w g s l) := by
  have hch : ∃ gk Gk, cp = some ⟨gk, 0, none⟩ ∧ RdAt Gk w gk s.ck ∧ ∀ k, Gk k → F k ∧ k ≠ g := by
    rcases h.ch with ⟨_, h3⟩ | ⟨h3, _⟩
    · exact h3
    · exact absurd h2 h3
  obtain ⟨gk, Gk, rfl, hr, hs⟩ := hch
  obtain ⟨N, hN⟩ : ∃ N, feedN s.ck l = N := ⟨_, rfl⟩
  obtain ⟨M, hM⟩ : ∃ M, (feedB s.ck l).length = M := ⟨_, rfl⟩
  obtain ⟨b, hb⟩ : ∃ b, decide ((feedK s.ck l).st = 11) = b := ⟨_, rfl⟩
  have HFd := hid (feed_as hr (hi.ck h2).1 l p n c hn hnc ha (fun a e hL hg => hp a e hL (hs _ hg).1) (by omega) hN hM hb hE)
  have k0 : w.cell? ⟨g, 0, none⟩ = some (.int .i64 2) := by have h9 := h.cells.a0; rw [h2] at h9; exact h9
  have k2 := h.cells.a2
  obtain ⟨f1, f2, f3⟩ := fed_2 hn0 h2 l
  have HT := hid (show tookX s l = N from by rw [f2]; exact hN)
  have HS := hid f3
  have HX := hid (show takX s l = { s with done := b, err := (feedK s.ck l).err, ck := feedK s.ck l } from by unfold takX; rw [f1, ← hb])
  have HFg := hid (fun (w1 : World) (G1 : Nat → Prop) (v : Value) (hG : FedG Gk w w1 gk s.ck l G1 v) => bd_fed h h2 hs hG)
  have HM := hid hM
  have HEr := hid hE
  have HFo := hid h.own
  clear hr hs hi hn0 h2 hn hnc ha hp hl hE hN hM hb f1 f2 f3 h
  go_enter Tryz.func33, Tryz.ntmps33
  go_wp2_with (go_at_call 70; (with_reducible refine HFd.out.mono ?_); rintro e w1 ⟨q, d, G1, rfl, hG⟩; have HG := hid (HFg.out w1 G1 _ hG); obtain ⟨_, _, _, _, y4, y5, yz⟩ := (HFg.out w1 G1 _ hG).t.bd.cells; have z4 := yz 4; have z5 := yz 5; clear hG yz HFg HFd)
  go_ret2
  refine ⟨q, d, (fun k => k = g ∨ G1 k), some ⟨gk, 0, none⟩, ?_, ?_⟩
  · rw [HT.out, HS.out, HM.out]; rfl
  · rw [HS.out, HM.out, HX.out]
    refine (HG.out.put HFo.out 4 (.bool b) (s' := { s with done := b, ck := feedK s.ck l }) (by unfold bdC; simp) rfl rfl).put HFo.out 5 _ ?_ rfl rfl
    rw [← HEr.out]
    unfold bdC
    simp
set_option maxRecDepth 20000 in
set_option maxHeartbeats 8000000 in
theorem take_2b {F : Nat → Prop} {w : World} {g : Nat} {s : BS} {cp : Option Addr} (h : BdAt F w g s cp) (hi : InvX s) (hn0 : overX s = false) (h2 : s.kind = 2) (l : B) (p : Option Addr) (n c : Nat) (hn : l.length = n) (hnc : n ≤ c) (ha : ArgAt w p l) (hp : ArgOut F p l) (hl : n ≤ 140737488355328) (hE : errOf (feedK s.ck l).err = .iface 72 (.int .i64 ((feedK s.ck l).err : Int))) :
    Calls Tryz.prog 33 #[.pointer (some ⟨g, 0, none⟩), .slice p n c] w (TakAns F w g s l) := by
  have hch : ∃ gk Gk, cp = some ⟨gk, 0, none⟩ ∧ RdAt Gk w gk s.ck ∧ ∀ k, Gk k → F k ∧ k ≠ g := by
    rcases h.ch with ⟨_, h3⟩ | ⟨h3, _⟩
    · exact h3
    · exact absurd h2 h3
  obtain ⟨gk, Gk, rfl, hr, hs⟩ := hch
  obtain ⟨N, hN⟩ : ∃ N, feedN s.ck l = N := ⟨_, rfl⟩
  obtain ⟨M, hM⟩ : ∃ M, (feedB s.ck l).length = M := ⟨_, rfl⟩
  obtain ⟨b, hb⟩ : ∃ b, decide ((feedK s.ck l).st = 11) = b := ⟨_, rfl⟩
  have HFd := hid (feed_as hr (hi.ck h2).1 l p n c hn hnc ha (fun a e hL hg => hp a e hL (hs _ hg).1) (by omega) hN hM hb hE)
  have k0 : w.cell? ⟨g, 0, none⟩ = some (.int .i64 2) := by have h9 := h.cells.a0; rw [h2] at h9; exact h9
  have k2 := h.cells.a2
  obtain ⟨f1, f2, f3⟩ := fed_2 hn0 h2 l
  have HT := hid (show tookX s l = N from by rw [f2]; exact hN)
  have HS := hid f3
  have HX := hid (show takX s l = { s with done := b, err := (feedK s.ck l).err, ck := feedK s.ck l } from by unfold takX; rw [f1, ← hb])
  have HFg := hid (fun (w1 : World) (G1 : Nat → Prop) (v : Value) (hG : FedG Gk w w1 gk s.ck l G1 v) => bd_fed h h2 hs hG)
  have HM := hid hM
  have HEr := hid hE
  have HFo := hid h.own
  clear hr hs hi hn0 h2 hn hnc ha hp hl hE hN hM hb f1 f2 f3 h
  go_enter Tryz.func33, Tryz.ntmps33
  go_wp2_with (go_at_call 70; (with_reducible refine HFd.out.mono ?_); rintro e w1 ⟨q, d, G1, rfl, hG⟩; have HG := hid (HFg.out w1 G1 _ hG); obtain ⟨_, _, _, _, y4, y5, yz⟩ := (HFg.out w1 G1 _ hG).t.bd.cells; have z4 := yz 4; have z5 := yz 5; clear hG yz HFg HFd)
  go_ret2
  refine ⟨q, d, (fun k => k = g ∨ G1 k), some ⟨gk, 0, none⟩, ?_, ?_⟩
  · rw [HT.out, HS.out, HM.out]; rfl
  · rw [HS.out, HM.out, HX.out]
    refine (HG.out.put HFo.out 4 (.bool b) (s' := { s with done := b, ck := feedK s.ck l }) (by unfold bdC; simp) rfl rfl).put HFo.out 5 _ ?_ rfl rfl
    rw [← HEr.out]
    unfold bdC
    simp
set_option maxRecDepth 20000 in
set_option maxHeartbeats 8000000 in
theorem take_1 {F : Nat → Prop} {w : World} {g : Nat} {s : BS} {cp : Option Addr} (h : BdAt F w g s cp) (hi : InvX s) (hn0 : overX s = false) (hkd : s.kind = 1) (l : B) (p : Option Addr) (n c : Nat) (hn : l.length = n) (hnc : n ≤ c) (hpc : p = none → c = 0) (ha : ArgAt w p l) (hl : n ≤ 140737488355328) :
    Calls Tryz.prog 33 #[.pointer (some ⟨g, 0, none⟩), .slice p n c] w (TakAns F w g s l) := by
  have h2 : s.kind ≠ 2 := by omega
  obtain ⟨k, hk⟩ : ∃ k, min n s.room = k := ⟨_, rfl⟩
  have hkn : k ≤ n := by omega
  have hkr : k ≤ s.room := by omega
  have HK := hid (show min (n : Int) (s.room : Int) = (k : Int) from by omega)
  obtain ⟨qp, dp, hq, P⟩ := part_h (⟨hn, hnc, hpc, ha.plain⟩ : SlOk p n c l) k hkn
  have HQ := hid hq
  have HTk := hid (show (l.drop 0).take k = l.take s.room from by rw [List.drop_zero]; rcases Nat.lt_or_ge s.room n with h9 | h9; (rw [show k = s.room by omega]); (rw [List.take_of_length_le (by omega), List.take_of_length_le (by omega)]))
  have HTl := hid (show ((l.drop 0).take k).length = k from by rw [List.length_take, List.drop_zero]; omega)
  have HAr := hid (P.arg w ha)
  have HPn := hid P.nil
  have hrr := hi.room h2
  have hw1 : IntKind.i64.wrap ((s.room : Int) - (k : Int)) = (s.room : Int) - (k : Int) := by rw [IntKind.wrap_i64]; omega
  have HCp := hid (fun (w1 : World) (q : Option Addr) (d : Nat) (hb : Below w.heap.size w w1) (ho : Own w1 w.heap.size (.slice q k d) ((l.drop 0).take k)) => bd_copied h hb ho)
  have k0 : w.cell? ⟨g, 0, none⟩ = some (.int .i64 1) := by have h9 := h.cells.a0; rw [hkd] at h9; exact h9
  have k1 := h.cells.a1
  have HFo := hid h.own
  obtain ⟨he0, hd0⟩ := over_no hn0
  obtain ⟨R, hR⟩ : ∃ R, s.room = R := ⟨_, rfl⟩
  have HR := hid hR
  have hkl : k ≤ 140737488355328 := by omega
  rw [hR] at HK hw1 k1 hkr hrr
  obtain ⟨f1, f2, f3⟩ := fed_1 hn0 hkd l
  obtain ⟨z, hz⟩ : ∃ z, (((R : Int) - (k : Int)) == 0) = z := ⟨_, rfl⟩
  have HT := hid (show tookX s l = k from by rw [f2, hn]; exact hk)
  have HS := hid (show saidX s l = (l.drop 0).take k from by rw [f3, HTk.out])
  have HX := hid (show takX s l = { s with room := R - k, done := z } from by
    unfold takX
    rw [f1, ← hz, ← hR, hn]
    have e1 : s.room - n = s.room - k := by omega
    have e2 : decide (s.room ≤ n) = (((s.room : Int) - (k : Int)) == 0) := by rw [Bool.eq_iff_iff]; simp; omega
    rw [e1, e2, ← hd0])
  have HKR := hid hkr
  clear hk hi hn0 h2 hn hnc hpc ha hl f1 f2 f3 h hrr he0 hd0 hq P hkr
  go_enter Tryz.func33, Tryz.ntmps33
  go_wp2_with (first | (refine wpList_min_as rfl (.tmp 39) (.tmp 43) rfl (n : Int) (R : Int) rfl rfl ?_; intro j hj; rw [HK.out] at hj; subst hj) | (refine wpList_sl rfl (.tmp 37) none (some (.tmp 44)) rfl (.slice p n c) (.slice qp k dp) none (some (.int .i64 (k : Int))) rfl rfl rfl HQ.out ?_; clear HQ) | (at_builtin; refine wpList_copy rfl (.const (.slice none 0 0)) (.tmp 45) rfl (by go_simp) ((l.drop 0).take k) qp k dp (by go_simp) HTl.out HAr.out HPn.out hkl ?_; intro q d w1 ho hb _ _; have HG := hid (HCp.out w1 q d hb ho); obtain ⟨y0, y1, _, _, y4, y5, yz⟩ := (HCp.out w1 q d hb ho).t.bd.cells; have z1 := yz 1; have z4 := yz 4; have z5 := yz 5; clear ho hb yz HCp; (try rw [hkd] at y0); (try rw [HR.out] at y1); have y0 : w1.cell? ⟨g, 0, none⟩ = some (.int .i64 1) := y0))
  (try simp only [Exit.inBlock, Exit.then])
  go_ret2
  refine ⟨q, d, (fun k => F k ∧ k < w.heap.size), cp, ?_, ?_⟩
  · rw [HT.out, HS.out, HTl.out]; rfl
  · rw [HS.out, HTl.out, HX.out]
    refine (HG.out.put HFo.out 1 (.int .i64 ((R : Int) - (k : Int))) (s' := { s with room := R - k }) ?_ rfl rfl).put HFo.out 4 (.bool z) (by unfold bdC; simp) rfl rfl
    have := HKR.out
    unfold bdC
    simp
    omega
set_option maxRecDepth 20000 in
set_option maxHeartbeats 8000000 in
theorem take_3a {F : Nat → Prop} {w : World} {g : Nat} {s : BS} {cp : Option Addr} (h : BdAt F w g s cp) (hi : InvX s) (hn0 : overX s = false) (hkd : s.kind = 3) (l : B) (p : Option Addr) (n c : Nat) (hn : l.length = n) (hnc : n ≤ c) (hpc : p = none → c = 0) (ha : ArgAt w p l) (hl : n ≤ 140737488355328) (hlt : ¬ s.room < n) :
    Calls Tryz.prog 33 #[.pointer (some ⟨g, 0, none⟩), .slice p n c] w (TakAns F w g s l) := by
  have h2 : s.kind ≠ 2 := by omega
  obtain ⟨k, hk⟩ : ∃ k, min n s.room = k := ⟨_, rfl⟩
  have hkn : k ≤ n := by omega
  have hkr : k ≤ s.room := by omega
  have HK := hid (show min (n : Int) (s.room : Int) = (k : Int) from by omega)
  obtain ⟨qp, dp, hq, P⟩ := part_h (⟨hn, hnc, hpc, ha.plain⟩ : SlOk p n c l) k hkn
  have HQ := hid hq
  have HTk := hid (show (l.drop 0).take k = l.take s.room from by rw [List.drop_zero]; rcases Nat.lt_or_ge s.room n with h9 | h9; (rw [show k = s.room by omega]); (rw [List.take_of_length_le (by omega), List.take_of_length_le (by omega)]))
  have HTl := hid (show ((l.drop 0).take k).length = k from by rw [List.length_take, List.drop_zero]; omega)
  have HAr := hid (P.arg w ha)
  have HPn := hid P.nil
  have hrr := hi.room h2
  have hw1 : IntKind.i64.wrap ((s.room : Int) - (k : Int)) = (s.room : Int) - (k : Int) := by rw [IntKind.wrap_i64]; omega
  have HCp := hid (fun (w1 : World) (q : Option Addr) (d : Nat) (hb : Below w.heap.size w w1) (ho : Own w1 w.heap.size (.slice q k d) ((l.drop 0).take k)) => bd_copied h hb ho)
  have k0 : w.cell? ⟨g, 0, none⟩ = some (.int .i64 3) := by have h9 := h.cells.a0; rw [hkd] at h9; exact h9
  have k1 := h.cells.a1
  have HFo := hid h.own
  obtain ⟨he0, hd0⟩ := over_no hn0
  obtain ⟨R, hR⟩ : ∃ R, s.room = R := ⟨_, rfl⟩
  have HR := hid hR
  have hkl : k ≤ 140737488355328 := by omega
  rw [hR] at HK hw1 k1 hkr hrr
  obtain ⟨f1, f2, f3⟩ := fed_3 hn0 h2 (by omega) l
  have hlk : ¬ (k : Int) < (n : Int) := by omega
  have HT := hid (show tookX s l = k from by rw [f2, hn, if_neg hlt]; omega)
  have HS := hid (show saidX s l = (l.drop 0).take k from by rw [f3, HTk.out])
  have HX := hid (show takX s l = { s with room := R - k } from by
    unfold takX
    rw [f1, hn, if_neg hlt, ← hR, ← hd0, ← he0, show s.room - n = s.room - k from by omega])
  have HKR := hid hkr
  have hw2 : IntKind.i64.wrap ((k : Int) + 1) = (k : Int) + 1 := by rw [IntKind.wrap_i64]; omega
  clear hk hi hn0 h2 hn hnc hpc ha hl f1 f2 f3 h hrr he0 hd0 hq P hkr hlt hR
  go_enter Tryz.func33, Tryz.ntmps33
  go_wp2_with (first | (refine wpList_min_as rfl (.tmp 39) (.tmp 43) rfl (n : Int) (R : Int) rfl rfl ?_; intro j hj; rw [HK.out] at hj; subst hj) | (refine wpList_sl rfl (.tmp 37) none (some (.tmp 44)) rfl (.slice p n c) (.slice qp k dp) none (some (.int .i64 (k : Int))) rfl rfl rfl HQ.out ?_; clear HQ) | (at_builtin; refine wpList_copy rfl (.const (.slice none 0 0)) (.tmp 45) rfl (by go_simp) ((l.drop 0).take k) qp k dp (by go_simp) HTl.out HAr.out HPn.out hkl ?_; intro q d w1 ho hb _ _; have HG := hid (HCp.out w1 q d hb ho); obtain ⟨y0, y1, _, _, y4, y5, yz⟩ := (HCp.out w1 q d hb ho).t.bd.cells; have z1 := yz 1; have z4 := yz 4; have z5 := yz 5; clear ho hb yz HCp; (try rw [hkd] at y0); (try rw [HR.out] at y1); have y0 : w1.cell? ⟨g, 0, none⟩ = some (.int .i64 3) := y0))
  (try simp only [Exit.inBlock, Exit.then])
  go_ret2
  refine ⟨q, d, (fun k => F k ∧ k < w.heap.size), cp, ?_, ?_⟩
  · rw [HT.out, HS.out, HTl.out]; (try push_cast); rfl
  · rw [HS.out, HTl.out, HX.out]
    refine HG.out.put HFo.out 1 (.int .i64 ((R : Int) - (k : Int))) (s' := { s with room := R - k }) ?_ rfl rfl
    have := HKR.out
    unfold bdC
    simp
    omega
set_option maxRecDepth 20000 in
set_option maxHeartbeats 8000000 in
theorem take_3b {F : Nat → Prop} {w : World} {g : Nat} {s : BS} {cp : Option Addr} (h : BdAt F w g s cp) (hi : InvX s) (hn0 : overX s = false) (hkd : s.kind = 3) (l : B) (p : Option Addr) (n c : Nat) (hn : l.length = n) (hnc : n ≤ c) (hpc : p = none → c = 0) (ha : ArgAt w p l) (hl : n ≤ 140737488355328) (hlt : s.room < n) :
    Calls Tryz.prog 33 #[.pointer (some ⟨g, 0, none⟩), .slice p n c] w (TakAns F w g s l) := by
  have h2 : s.kind ≠ 2 := by omega
  obtain ⟨k, hk⟩ : ∃ k, min n s.room = k := ⟨_, rfl⟩
  have hkn : k ≤ n := by omega
  have hkr : k ≤ s.room := by omega
  have HK := hid (show min (n : Int) (s.room : Int) = (k : Int) from by omega)
  obtain ⟨qp, dp, hq, P⟩ := part_h (⟨hn, hnc, hpc, ha.plain⟩ : SlOk p n c l) k hkn
  have HQ := hid hq
  have HTk := hid (show (l.drop 0).take k = l.take s.room from by rw [List.drop_zero]; rcases Nat.lt_or_ge s.room n with h9 | h9; (rw [show k = s.room by omega]); (rw [List.take_of_length_le (by omega), List.take_of_length_le (by omega)]))
  have HTl := hid (show ((l.drop 0).take k).length = k from by rw [List.length_take, List.drop_zero]; omega)
  have HAr := hid (P.arg w ha)
  have HPn := hid P.nil
  have hrr := hi.room h2
  have hw1 : IntKind.i64.wrap ((s.room : Int) - (k : Int)) = (s.room : Int) - (k : Int) := by rw [IntKind.wrap_i64]; omega
  have HCp := hid (fun (w1 : World) (q : Option Addr) (d : Nat) (hb : Below w.heap.size w w1) (ho : Own w1 w.heap.size (.slice q k d) ((l.drop 0).take k)) => bd_copied h hb ho)
  have k0 : w.cell? ⟨g, 0, none⟩ = some (.int .i64 3) := by have h9 := h.cells.a0; rw [hkd] at h9; exact h9
  have k1 := h.cells.a1
  have HFo := hid h.own
  obtain ⟨he0, hd0⟩ := over_no hn0
  obtain ⟨R, hR⟩ : ∃ R, s.room = R := ⟨_, rfl⟩
  have HR := hid hR
  have hkl : k ≤ 140737488355328 := by omega
  rw [hR] at HK hw1 k1 hkr hrr
  obtain ⟨f1, f2, f3⟩ := fed_3 hn0 h2 (by omega) l
  have hlk :  (k : Int) < (n : Int) := by omega
  have HT := hid (show tookX s l = k + 1 from by rw [f2, hn, if_pos hlt]; omega)
  have HS := hid (show saidX s l = (l.drop 0).take k from by rw [f3, HTk.out])
  have HX := hid (show takX s l = { s with room := R - k, err := 33 } from by
    unfold takX
    rw [f1, hn, if_pos hlt, ← hR, ← he0, show s.room - n = s.room - k from by omega])
  have HKR := hid hkr
  have hw2 : IntKind.i64.wrap ((k : Int) + 1) = (k : Int) + 1 := by rw [IntKind.wrap_i64]; omega
  clear hk hi hn0 h2 hn hnc hpc ha hl f1 f2 f3 h hrr he0 hd0 hq P hkr hlt hR
  go_enter Tryz.func33, Tryz.ntmps33
  go_wp2_with (first | (refine wpList_min_as rfl (.tmp 39) (.tmp 43) rfl (n : Int) (R : Int) rfl rfl ?_; intro j hj; rw [HK.out] at hj; subst hj) | (refine wpList_sl rfl (.tmp 37) none (some (.tmp 44)) rfl (.slice p n c) (.slice qp k dp) none (some (.int .i64 (k : Int))) rfl rfl rfl HQ.out ?_; clear HQ) | (at_builtin; refine wpList_copy rfl (.const (.slice none 0 0)) (.tmp 45) rfl (by go_simp) ((l.drop 0).take k) qp k dp (by go_simp) HTl.out HAr.out HPn.out hkl ?_; intro q d w1 ho hb _ _; have HG := hid (HCp.out w1 q d hb ho); obtain ⟨y0, y1, _, _, y4, y5, yz⟩ := (HCp.out w1 q d hb ho).t.bd.cells; have z1 := yz 1; have z4 := yz 4; have z5 := yz 5; clear ho hb yz HCp; (try rw [hkd] at y0); (try rw [HR.out] at y1); have y0 : w1.cell? ⟨g, 0, none⟩ = some (.int .i64 3) := y0))
  (try simp only [Exit.inBlock, Exit.then])
  go_ret2
  refine ⟨q, d, (fun k => F k ∧ k < w.heap.size), cp, ?_, ?_⟩
  · rw [HT.out, HS.out, HTl.out]; (try push_cast); rfl
  · rw [HS.out, HTl.out, HX.out]
    refine (HG.out.put HFo.out 1 (.int .i64 ((R : Int) - (k : Int))) (s' := { s with room := R - k }) ?_ rfl rfl).put HFo.out 5 _ (by unfold bdC; simp [errOf]) rfl rfl
    have := HKR.out
    unfold bdC
    simp
    omega
theorem take_any {F : Nat → Prop} {w : World} {g : Nat} {s : BS} {cp : Option Addr} (h : BdAt F w g s cp) (hi : InvX s) (hn0 : overX s = false) (l : B) (p : Option Addr) (n c : Nat) (hn : l.length = n) (hnc : n ≤ c) (hpc : p = none → c = 0) (ha : ArgAt w p l) (hp : ArgOut F p l) (hl : n ≤ 140737488355328) :
    Calls Tryz.prog 33 #[.pointer (some ⟨g, 0, none⟩), .slice p n c] w (TakAns F w g s l) := by
  have hk := hi.kind
  have h4 : s.kind = 0 ∨ s.kind = 1 ∨ s.kind = 2 ∨ s.kind = 3 := by omega
  rcases h4 with e | e | e | e
  · have := hi.k0 e
    rw [(over_no hn0).1] at this
    cases this
  · exact take_1 h hi hn0 e l p n c hn hnc hpc ha hl
  · rcases err_cases (feedK s.ck l).err with ⟨_, h5⟩ | ⟨_, h5⟩
    · exact take_2a h hi hn0 e l p n c hn hnc ha hp hl h5
    · exact take_2b h hi hn0 e l p n c hn hnc ha hp hl h5
  · by_cases hlt : s.room < n
    · exact take_3b h hi hn0 e l p n c hn hnc hpc ha hl hlt
    · exact take_3a h hi hn0 e l p n c hn hnc hpc ha hl hlt
/-- What Feed answers, and what the reader has become. -/
def FedAns (F : Nat → Prop) (w : World) (g : Nat) (s : BS) (l : B) (e : Ending) (w' : World) : Prop :=
  ∃ q d G cp, e = .returned (.tuple #[.int .i64 (tookX s l : Int), .slice q (saidX s l).length d, .bool (fedX s l).done, errOf (fedX s l).err]) ∧ FedXG F w w' g (fedX s l) (saidX s l) G cp (.slice q (saidX s l).length d)
theorem fed_still {F : Nat → Prop} {w : World} {g : Nat} {s : BS} {cp : Option Addr} (h : BdAt F w g s cp) : FedXG F w w g s [] (fun k => F k ∧ k < w.heap.size) cp (.slice none 0 0) :=
  ⟨⟨h.trim, Only.refl _ _, fun k hk => .inl hk.1, fun k hk => hk.2⟩, Own.nil _ _, fun k e => by simp [Value.ownBlock] at e⟩
theorem over_ans {F : Nat → Prop} {w : World} {g : Nat} {s : BS} {cp : Option Addr} (h : BdAt F w g s cp) (hn0 : overX s = true) (l : B) {D : Bool} {E : Value} (hD : s.done = D) (hE : errOf s.err = E) (q : Nat) : FedAns F w g s l (.returned (.tuple #[.int .i64 0, .slice none 0 0, .bool D, E])) (w.drewN q) := by
  obtain ⟨h1, h2, h3⟩ := over_yes hn0 l
  unfold FedAns
  rw [h1, h2, h3, hD, hE]
  exact ⟨none, 0, _, _, rfl, (fed_still h).drew q⟩
set_option maxRecDepth 20000 in
set_option maxHeartbeats 8000000 in
theorem feed_o1 {F : Nat → Prop} {w : World} {g : Nat} {s : BS} {cp : Option Addr} (h : BdAt F w g s cp) (hn0 : overX s = true) (l : B) (p : Option Addr) (n c : Nat) (hD : s.done = true) (hE : errOf s.err = .nilIface) :
    Calls Tryz.prog 10 #[.pointer (some ⟨g, 0, none⟩), .slice p n c] w (FedAns F w g s l) := by
  have k4 := h.cells.a4
  have k5 := h.cells.a5
  rw [hD] at k4
  rw [hE] at k5
  have HA := hid (fun nq => over_ans h hn0 l hD hE nq)
  clear h hn0 hD hE
  go_enter Tryz.func10, Tryz.ntmps10
  go_wp2
  go_quiet (fail)
  go_wp2
  (try rw [Exit.noGoto_ret]); refine bodyPost_ret (results_tmp4 rfl _ _ _) rfl ?_
  exact HA.out _
set_option maxRecDepth 20000 in
set_option maxHeartbeats 8000000 in
theorem feed_o2 {F : Nat → Prop} {w : World} {g : Nat} {s : BS} {cp : Option Addr} (h : BdAt F w g s cp) (hn0 : overX s = true) (l : B) (p : Option Addr) (n c : Nat) (hD : s.done = true) (hE : errOf s.err = .iface 72 (.int .i64 (s.err : Int))) :
    Calls Tryz.prog 10 #[.pointer (some ⟨g, 0, none⟩), .slice p n c] w (FedAns F w g s l) := by
  have k4 := h.cells.a4
  have k5 := h.cells.a5
  rw [hD] at k4
  rw [hE] at k5
  have HA := hid (fun nq => over_ans h hn0 l hD hE nq)
  clear h hn0 hD hE
  go_enter Tryz.func10, Tryz.ntmps10
  go_wp2
  go_quiet (fail)
  go_wp2
  (try rw [Exit.noGoto_ret]); refine bodyPost_ret (results_tmp4 rfl _ _ _) rfl ?_
  exact HA.out _
set_option maxRecDepth 20000 in
set_option maxHeartbeats 8000000 in
theorem feed_o3 {F : Nat → Prop} {w : World} {g : Nat} {s : BS} {cp : Option Addr} (h : BdAt F w g s cp) (hn0 : overX s = true) (l : B) (p : Option Addr) (n c : Nat) (hD : s.done = false) (hE : errOf s.err = .iface 72 (.int .i64 (s.err : Int))) :
    Calls Tryz.prog 10 #[.pointer (some ⟨g, 0, none⟩), .slice p n c] w (FedAns F w g s l) := by
  have k4 := h.cells.a4
  have k5 := h.cells.a5
  rw [hD] at k4
  rw [hE] at k5
  have HA := hid (fun nq => over_ans h hn0 l hD hE nq)
  clear h hn0 hD hE
  go_enter Tryz.func10, Tryz.ntmps10
  go_wp2
  go_quiet (fail)
  go_wp2
  (try rw [Exit.noGoto_ret]); refine bodyPost_ret (results_tmp4 rfl _ _ _) rfl ?_
  exact HA.out _
set_option maxRecDepth 20000 in
set_option maxHeartbeats 8000000 in
theorem feed_n1 {F : Nat → Prop} {w : World} {g : Nat} {s : BS} {cp : Option Addr} (h : BdAt F w g s cp) (hi : InvX s) (hn0 : overX s = false) (l : B) (p : Option Addr) (n c : Nat) (hn : l.length = n) (hnc : n ≤ c) (hpc : p = none → c = 0) (ha : ArgAt w p l) (hp : ArgOut F p l) (hl : n ≤ 140737488355328) (hE : errOf (fedX s l).err = .nilIface) :
    Calls Tryz.prog 10 #[.pointer (some ⟨g, 0, none⟩), .slice p n c] w (FedAns F w g s l) := by
  have HTk := hid (take_any h hi hn0 l p n c hn hnc hpc ha hp hl)
  have k4 := h.cells.a4
  have k5 := h.cells.a5
  obtain ⟨hd0, he0⟩ := over_no hn0
  rw [hd0] at k4
  rw [he0, errOf_zero] at k5
  have hsm := (inv_fed hi l).small
  rw [(fed_told s l).1] at hsm
  have HTd := hid (fed_told s l).1
  obtain ⟨N, hN⟩ : ∃ N, tookX s l = N := ⟨_, rfl⟩
  obtain ⟨M, hM⟩ : ∃ M, (saidX s l).length = M := ⟨_, rfl⟩
  obtain ⟨D, hD⟩ : ∃ D, (fedX s l).done = D := ⟨_, rfl⟩
  unfold TakAns at HTk
  unfold FedAns
  rw [hN, hM] at HTk
  rw [hM] at HTd
  rw [hM] at hsm
  rw [hN, hM, hD, hE]
  have hw1 : IntKind.i64.wrap ((s.told : Int) + (M : Int)) = (s.told : Int) + (M : Int) := by rw [IntKind.wrap_i64]; omega
  have HFo := hid h.own
  have HC := hid (fun (w1 : World) (G : Nat → Prop) (cp : Option Addr) (v : Value) (hG : FedXG F w w1 g (takX s l) (saidX s l) G cp v) => hG.t.bd.cells)
  have HD := hid hD
  have HE := hid hE
  clear h hi hn0 hn hnc hpc ha hp hl hsm hN hM hd0 he0 hD hE
  go_enter Tryz.func10, Tryz.ntmps10
  go_wp2_with (go_at_call 33; (with_reducible refine HTk.out.mono ?_); rintro e w1 ⟨q, d, G, cp1, rfl, hG⟩; have HG := hid hG; obtain ⟨_, _, _, x3, x4, x5, yz⟩ := HC.out w1 G cp1 _ hG; have y3 : w1.cell? ⟨g, 3, none⟩ = some (.int .i64 (s.told : Int)) := x3; have y4 : w1.cell? ⟨g, 4, none⟩ = some (.bool D) := (by rw [x4, ← HD.out]; rfl); have y5 : w1.cell? ⟨g, 5, none⟩ = some (.nilIface) := (by rw [x5, ← HE.out]; rfl); have z3 := yz 3; clear hG yz HC HTk x3 x4 x5)
  go_quiet (fail)
  go_wp2
  (try rw [Exit.noGoto_ret]); refine bodyPost_ret (results_tmp4 rfl _ _ _) rfl ?_
  refine ⟨q, d, G, cp1, rfl, ?_⟩
  refine (HG.out.put HFo.out 3 (.int .i64 ((s.told : Int) + (M : Int))) (s' := fedX s l) ?_ rfl rfl).drew _
  have := HTd.out
  unfold bdC takX
  simp
  omega
set_option maxRecDepth 20000 in
set_option maxHeartbeats 8000000 in
theorem feed_n2 {F : Nat → Prop} {w : World} {g : Nat} {s : BS} {cp : Option Addr} (h : BdAt F w g s cp) (hi : InvX s) (hn0 : overX s = false) (l : B) (p : Option Addr) (n c : Nat) (hn : l.length = n) (hnc : n ≤ c) (hpc : p = none → c = 0) (ha : ArgAt w p l) (hp : ArgOut F p l) (hl : n ≤ 140737488355328) (hE : errOf (fedX s l).err = .iface 72 (.int .i64 ((fedX s l).err : Int))) :
    Calls Tryz.prog 10 #[.pointer (some ⟨g, 0, none⟩), .slice p n c] w (FedAns F w g s l) := by
  have HTk := hid (take_any h hi hn0 l p n c hn hnc hpc ha hp hl)
  have k4 := h.cells.a4
  have k5 := h.cells.a5
  obtain ⟨hd0, he0⟩ := over_no hn0
  rw [hd0] at k4
  rw [he0, errOf_zero] at k5
  have hsm := (inv_fed hi l).small
  rw [(fed_told s l).1] at hsm
  have HTd := hid (fed_told s l).1
  obtain ⟨N, hN⟩ : ∃ N, tookX s l = N := ⟨_, rfl⟩
  obtain ⟨M, hM⟩ : ∃ M, (saidX s l).length = M := ⟨_, rfl⟩
  obtain ⟨D, hD⟩ : ∃ D, (fedX s l).done = D := ⟨_, rfl⟩
  unfold TakAns at HTk
  unfold FedAns
  rw [hN, hM] at HTk
  rw [hM] at HTd
  rw [hM] at hsm
  rw [hN, hM, hD, hE]
  have hw1 : IntKind.i64.wrap ((s.told : Int) + (M : Int)) = (s.told : Int) + (M : Int) := by rw [IntKind.wrap_i64]; omega
  have HFo := hid h.own
  have HC := hid (fun (w1 : World) (G : Nat → Prop) (cp : Option Addr) (v : Value) (hG : FedXG F w w1 g (takX s l) (saidX s l) G cp v) => hG.t.bd.cells)
  have HD := hid hD
  have HE := hid hE
  clear h hi hn0 hn hnc hpc ha hp hl hsm hN hM hd0 he0 hD hE
  go_enter Tryz.func10, Tryz.ntmps10
  go_wp2_with (go_at_call 33; (with_reducible refine HTk.out.mono ?_); rintro e w1 ⟨q, d, G, cp1, rfl, hG⟩; have HG := hid hG; obtain ⟨_, _, _, x3, x4, x5, yz⟩ := HC.out w1 G cp1 _ hG; have y3 : w1.cell? ⟨g, 3, none⟩ = some (.int .i64 (s.told : Int)) := x3; have y4 : w1.cell? ⟨g, 4, none⟩ = some (.bool D) := (by rw [x4, ← HD.out]; rfl); have y5 : w1.cell? ⟨g, 5, none⟩ = some (.iface 72 (.int .i64 ((fedX s l).err : Int))) := (by rw [x5, ← HE.out]; rfl); have z3 := yz 3; clear hG yz HC HTk x3 x4 x5)
  go_quiet (fail)
  go_wp2
  (try rw [Exit.noGoto_ret]); refine bodyPost_ret (results_tmp4 rfl _ _ _) rfl ?_
  refine ⟨q, d, G, cp1, rfl, ?_⟩
  refine (HG.out.put HFo.out 3 (.int .i64 ((s.told : Int) + (M : Int))) (s' := fedX s l) ?_ rfl rfl).drew _
  have := HTd.out
  unfold bdC takX
  simp
  omega
theorem feedx_any {F : Nat → Prop} {w : World} {g : Nat} {s : BS} {cp : Option Addr} (h : BdAt F w g s cp) (hi : InvX s) (l : B) (p : Option Addr) (n c : Nat) (hn : l.length = n) (hnc : n ≤ c) (hpc : p = none → c = 0) (ha : ArgAt w p l) (hp : ArgOut F p l) (hl : n ≤ 140737488355328) :
    Calls Tryz.prog 10 #[.pointer (some ⟨g, 0, none⟩), .slice p n c] w (FedAns F w g s l) := by
  cases hn0 : overX s with
  | false =>
    rcases err_cases (fedX s l).err with ⟨_, h5⟩ | ⟨_, h5⟩
    · exact feed_n1 h hi hn0 l p n c hn hnc hpc ha hp hl h5
    · exact feed_n2 h hi hn0 l p n c hn hnc hpc ha hp hl h5
  | true =>
    rcases err_cases s.err with ⟨h6, h5⟩ | ⟨_, h5⟩
    · refine feed_o1 h hn0 l p n c ?_ h5
      unfold overX at hn0
      simpa [h6] using hn0
    · cases hd : s.done with
      | true => exact feed_o2 h hn0 l p n c hd h5
      | false => exact feed_o3 h hn0 l p n c hd h5
end Go.Proofs.YtnlmjlfoeodleaaGreatDoor
