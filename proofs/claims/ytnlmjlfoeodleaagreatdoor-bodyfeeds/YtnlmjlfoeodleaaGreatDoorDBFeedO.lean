/- The document's reader of bodies: Feed behind the end. -/
import Derived.Test.YtnlmjlfoeodleaaGreatDoorDBNewP
namespace Go.Proofs.YtnlmjlfoeodleaaGreatDoor
open Go.RowKit

set_option maxRecDepth 20000 in
set_option maxHeartbeats 8000000 in
theorem dbf_o1 (K N m : Int) (s : BS) (d : DK) (lp tp : Option Addr) (ln lc tn tc : Nat) (l : B) (p : Option Addr) (n c : Nat) (w : World) (hl : d.line.length = ln) (ht : d.tr.length = tn) (hA : DkAt w d lp lc tp tc) (hv : overX s = true) (hD : s.done = true) : Calls Tryz.prog 11 #[.agg (bdV K N m s d (.slice lp ln lc) (.slice tp tn tc)), .slice p n c] w (DFedB K N m s d l w) := by
  obtain ⟨v1, v2, v3⟩ := over_yes hv l
  have hdk : fedDK s d l = d := by unfold fedDK; rw [if_neg (fun h9 => by rw [hv] at h9; cases h9.1)]
  unfold DFedB
  rw [v1, v2, v3, hdk]
  have HS := hid (BFS.start (bdV K N m s d (.slice lp ln lc) (.slice tp tn tc)) hA)
  have HL := hid hl
  have HT := hid ht
  obtain ⟨T, hT⟩ : ∃ T : Int, (s.told : Int) = T := ⟨_, rfl⟩
  obtain ⟨E, hE⟩ : ∃ E : Int, (s.err : Int) = E := ⟨_, rfl⟩
  obtain ⟨most, len, st, e0, digits, size, more, line, bytes, tr, gh⟩ := d
  unfold bdV at HS ⊢
  rw [hD, hT, hE] at HS ⊢
  clear v1 v2 v3 hdk hv hl ht hA hT hE hD
  go_enter Tryz.func11, Tryz.ntmps11
  have HF := hid (zz_free HS.out)
  go_wp2_with (refine wpList_store_bd rfl (.tmp 4) (.tmp 21) rfl (w.heap.size + 1) (by go_simp) K N m T true E (most : Int) (len : Int) (st : Int) (e0 : Int) (digits : Int) (size : Int) (more : Int) (bytes : Int) lp tp ln tn lc tc (by go_simp) HS.out.b2 ?_; intro U hU hO hZ; have HU := hid hU; have HO := hid hO; clear hU hO hZ)
  (try go_wp2)
  refine bodyPost_ret (results_bd3 rfl _ _ _ 37 _ (0, 0) rfl HU.out rfl) rfl ?_
  obtain ⟨r1, r2, r3⟩ := bfs_out HS.out HO.out HF.out rfl
  exact ⟨lp, ln, lc, tp, tn, tc, none, 0, rfl, HL.out, HT.out, r1, r2, r3⟩
set_option maxRecDepth 20000 in
set_option maxHeartbeats 8000000 in
theorem dbf_o2 (K N m : Int) (s : BS) (d : DK) (lp tp : Option Addr) (ln lc tn tc : Nat) (l : B) (p : Option Addr) (n c : Nat) (w : World) (hl : d.line.length = ln) (ht : d.tr.length = tn) (hA : DkAt w d lp lc tp tc) (hv : overX s = true) (hD : s.done = false) (hE0 : s.err ≠ 0) : Calls Tryz.prog 11 #[.agg (bdV K N m s d (.slice lp ln lc) (.slice tp tn tc)), .slice p n c] w (DFedB K N m s d l w) := by
  obtain ⟨v1, v2, v3⟩ := over_yes hv l
  have hdk : fedDK s d l = d := by unfold fedDK; rw [if_neg (fun h9 => by rw [hv] at h9; cases h9.1)]
  unfold DFedB
  rw [v1, v2, v3, hdk]
  have HS := hid (BFS.start (bdV K N m s d (.slice lp ln lc) (.slice tp tn tc)) hA)
  have HL := hid hl
  have HT := hid ht
  obtain ⟨T, hT⟩ : ∃ T : Int, (s.told : Int) = T := ⟨_, rfl⟩
  obtain ⟨E, hE⟩ : ∃ E : Int, (s.err : Int) = E := ⟨_, rfl⟩
  obtain ⟨most, len, st, e0, digits, size, more, line, bytes, tr, gh⟩ := d
  unfold bdV at HS ⊢
  rw [hD, hT, hE] at HS ⊢
  have hEn : (E != 0) = true := by simp; omega
  clear v1 v2 v3 hdk hv hl ht hA hT hE hD
  go_enter Tryz.func11, Tryz.ntmps11
  have HF := hid (zz_free HS.out)
  go_wp2_with (refine wpList_store_bd rfl (.tmp 4) (.tmp 21) rfl (w.heap.size + 1) (by go_simp) K N m T false E (most : Int) (len : Int) (st : Int) (e0 : Int) (digits : Int) (size : Int) (more : Int) (bytes : Int) lp tp ln tn lc tc (by go_simp) HS.out.b2 ?_; intro U hU hO hZ; have HU := hid hU; have HO := hid hO; clear hU hO hZ)
  (try go_wp2)
  refine bodyPost_ret (results_bd3 rfl _ _ _ 37 _ (0, 0) rfl HU.out rfl) rfl ?_
  obtain ⟨r1, r2, r3⟩ := bfs_out HS.out HO.out HF.out rfl
  exact ⟨lp, ln, lc, tp, tn, tc, none, 0, rfl, HL.out, HT.out, r1, r2, r3⟩
end Go.Proofs.YtnlmjlfoeodleaaGreatDoor
