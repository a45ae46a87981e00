/- The program's reader of chunked bodies: bytes of a chunk's own. -/
import Derived.Test.YtnlmjlfoeodleaaGreatDoorKNext
namespace Go.Proofs.YtnlmjlfoeodleaaGreatDoor
open Go.RowKit

theorem RdAt.own2 {F : Nat → Prop} {w : World} {g : Nat} {s : KS} (h : RdAt F w g s) (k : Nat) (hk : k < s.left) : Turned F w g (ownK s k) ((w.setCell ⟨g, 1, none⟩ (.int .i64 ((s.told : Int) + (k : Int)))).setCell ⟨g, 4, none⟩ (.int .u64 ((s.left : Int) - (k : Int)))) := by
  obtain ⟨r1, o1⟩ := h.put (s' := { s with told := s.told + k }) 1 (.int .i64 ((s.told : Int) + (k : Int))) (fun t p => by unfold kdCells; simp) rfl rfl
  obtain ⟨r2, o2⟩ := r1.put (s' := ownK s k) 4 (.int .u64 ((s.left : Int) - (k : Int))) (fun t p => by
    unfold kdCells ownK
    rw [if_neg (by omega)]
    simp
    omega) rfl rfl
  exact ⟨F, r2, o1.trans o2 (fun _ h => .inl h), fun _ h => .inl h⟩
theorem RdAt.own3 {F : Nat → Prop} {w : World} {g : Nat} {s : KS} (h : RdAt F w g s) : Turned F w g (ownK s s.left) (((w.setCell ⟨g, 1, none⟩ (.int .i64 ((s.told : Int) + (s.left : Int)))).setCell ⟨g, 4, none⟩ (.int .u64 0)).setCell ⟨g, 3, none⟩ (.int .i64 4)) := by
  obtain ⟨r1, o1⟩ := h.put (s' := { s with told := s.told + s.left }) 1 (.int .i64 ((s.told : Int) + (s.left : Int))) (fun t p => by unfold kdCells; simp) rfl rfl
  obtain ⟨r2, o2⟩ := r1.put (s' := { s with told := s.told + s.left, left := 0 }) 4 (.int .u64 0) (fun t p => by unfold kdCells; simp) rfl rfl
  obtain ⟨r3, o3⟩ := r2.put (s' := ownK s s.left) 3 (.int .i64 4) (fun t p => by unfold kdCells ownK; simp) (by simp [ownK]) (by simp [ownK])
  exact ⟨F, r3, (o1.trans o2 (fun _ h => .inl h)).trans o3 (fun _ h => .inl h), fun _ h => .inl h⟩
set_option maxRecDepth 20000 in
set_option maxHeartbeats 8000000 in
theorem own_a {F : Nat → Prop} {w : World} {g : Nat} {s : KS} (h : RdAt F w g s) (ad : Addr) (n c : Nat) (ht : s.told ≤ 1099511627776) (hl : s.left ≤ 1099511627776) (hn : n ≤ 281474976710656) (hnc : n ≤ c) (hk : n < s.left) : Calls Tryz.prog 110 #[.pointer (some ⟨g, 0, none⟩), .slice (some ad) n c] w fun e w' => e = .returned (.slice (some ad) n c) ∧ Turned F w g (ownK s n) w' := by
  have HT := hid (h.own2 n hk)
  obtain ⟨t, p, hc⟩ := h.cells
  have k1 := hc.a1
  have k3 := hc.a3
  have k4 := hc.a4
  have z1 := hc.z 1
  have z3 := hc.z 3
  have z4 := hc.z 4
  obtain ⟨T, hT⟩ : ∃ T, s.told = T := ⟨_, rfl⟩
  obtain ⟨L, hL⟩ : ∃ L, s.left = L := ⟨_, rfl⟩
  rw [hT] at HT k1 ht
  rw [hL] at HT k4 hl hk
  have hw0 : IntKind.u64.wrap (n : Int) = (n : Int) := wraps_u64 _ (by omega) (by omega)
  have hw1 : IntKind.u64.wrap ((L : Int) - (n : Int)) = (L : Int) - (n : Int) := wraps_u64 _ (by omega) (by omega)
  have hmin : min (n : Int) (L : Int) = (n : Int) := by omega
  have hz : (((L : Int) - (n : Int)) == 0) = false := by rw [beq_eq_false_iff_ne]; omega
  clear hc h
  go_enter Tryz.func110, Tryz.ntmps110
  go_wp2
  go_ret
  exact ⟨rfl, HT.out⟩
set_option maxRecDepth 20000 in
set_option maxHeartbeats 8000000 in
theorem own_b {F : Nat → Prop} {w : World} {g : Nat} {s : KS} (h : RdAt F w g s) (ad : Addr) (n c : Nat) (ht : s.told ≤ 1099511627776) (hl : s.left ≤ 1099511627776) (hn : n ≤ 281474976710656) (hnc : n ≤ c) (hk : s.left ≤ n) : Calls Tryz.prog 110 #[.pointer (some ⟨g, 0, none⟩), .slice (some ad) n c] w fun e w' => e = .returned (.slice (some ad) s.left c) ∧ Turned F w g (ownK s s.left) w' := by
  have HT := hid (h.own3)
  obtain ⟨t, p, hc⟩ := h.cells
  have k1 := hc.a1
  have k3 := hc.a3
  have k4 := hc.a4
  have z1 := hc.z 1
  have z3 := hc.z 3
  have z4 := hc.z 4
  obtain ⟨T, hT⟩ : ∃ T, s.told = T := ⟨_, rfl⟩
  obtain ⟨L, hL⟩ : ∃ L, s.left = L := ⟨_, rfl⟩
  rw [hT] at HT k1 ht
  rw [hL] at HT k4 hl hk ⊢
  have hw0 : IntKind.u64.wrap (n : Int) = (n : Int) := wraps_u64 _ (by omega) (by omega)
  have hw3 : IntKind.u64.wrap (L : Int) = (L : Int) := wraps_u64 _ (by omega) (by omega)
  have hmin : min (n : Int) (L : Int) = (L : Int) := by omega
  have hlc : L ≤ c := by omega
  clear hc h
  go_enter Tryz.func110, Tryz.ntmps110
  go_wp2
  go_ret
  exact ⟨rfl, HT.out⟩
theorem own_any {F : Nat → Prop} {w : World} {g : Nat} {s : KS} (h : RdAt F w g s) (hi : InvK s) (h3 : s.st = 3) (ad : Addr) (n c : Nat) (hn : n ≤ 281474976710656) (hnc : n ≤ c) : Calls Tryz.prog 110 #[.pointer (some ⟨g, 0, none⟩), .slice (some ad) n c] w fun e w' => e = .returned (.slice (some ad) (min n s.left) c) ∧ Turned F w g (ownK s (min n s.left)) w' := by
  have h1 := hi.told
  have h2 := hi.most
  have h4 := hi.s3 h3
  by_cases hk : n < s.left
  · rw [Nat.min_eq_left (by omega)]
    exact own_a h ad n c (by omega) (by omega) hn hnc hk
  · rw [Nat.min_eq_right (by omega)]
    exact own_b h ad n c (by omega) (by omega) hn hnc (by omega)
end Go.Proofs.YtnlmjlfoeodleaaGreatDoor
