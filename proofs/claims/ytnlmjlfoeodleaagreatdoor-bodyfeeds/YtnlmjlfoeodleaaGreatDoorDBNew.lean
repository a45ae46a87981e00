/- The document's reader of bodies: a fresh one. -/
import Derived.Test.YtnlmjlfoeodleaaGreatDoorDBNewA
import Derived.Test.YtnlmjlfoeodleaaGreatDoorDBNewB
import Derived.Test.YtnlmjlfoeodleaaGreatDoorDBNewC
import Derived.Test.YtnlmjlfoeodleaaGreatDoorDBNewD
namespace Go.Proofs.YtnlmjlfoeodleaaGreatDoor
open Go.RowKit

theorem dnew_any (K N m : Int) (h9 : m ≤ 9223372036854775807) (w : World) : Calls Tryz.prog 7 #[.agg #[.int .i64 K, .int .i64 N], .int .i64 m] w (DNew K N m w) := by
  by_cases h0 : newE K N m = 0
  · obtain ⟨hok, hm, hN⟩ := new_parts h0
    have hk := of_decide_eq_true hok
    have hK : K = 0 ∨ K = 1 ∨ K = 2 ∨ K = 3 := by omega
    have hm' : ¬ m < -1 := by omega
    have mono : ∀ {C : Array Value}, C = bdV K N m (newX K N m) (newDK K m) (.slice none 0 0) (.slice none 0 0) → Calls Tryz.prog 7 #[.agg #[.int .i64 K, .int .i64 N], .int .i64 m] w (fun e w' => e = .returned (.tuple #[.agg C, .int .i64 0]) ∧ Below w.heap.size w w') → Calls Tryz.prog 7 #[.agg #[.int .i64 K, .int .i64 N], .int .i64 m] w (DNew K N m w) := by
      intro C hC h
      refine h.mono ?_
      rintro e w' ⟨rfl, hb⟩
      exact .inr ⟨h0, by rw [hC], hb⟩
    rcases hK with rfl | rfl | rfl | rfl
    · exact mono rfl (dnew_0 N m w hok hm')
    · have hz : (#[.int .i64 1, .int .i64 N, .int .i64 m, .int .i64 0, .bool (N == 0), .int .i64 0, .int .i64 0, .int .i64 0, .int .i64 0, .int .i64 0, .int .i64 0, .int .i64 0, .int .i64 0, .slice none 0 0, .int .i64 0, .slice none 0 0] : Array Value) = bdV 1 N m (newX 1 N m) (newDK 1 m) (.slice none 0 0) (.slice none 0 0) := by
        unfold bdV newX newDK newD
        rw [show (N == 0) = decide ((1 : Int) = 0 ∨ (1 : Int) = 1 ∧ N = 0) from by rw [Bool.eq_iff_iff]; simp]
        rfl
      by_cases h1 : m < 0
      · exact mono hz (dnew_1a N m w _ rfl hok hm' h1)
      · exact mono hz (dnew_1b N m w _ rfl hok hm' (by omega) (by unfold topX at hN; rw [if_neg (by omega)] at hN; omega))
    · have hz : ∀ J : Int, J = ((min (topX m) 1099511627776 : Nat) : Int) → (#[.int .i64 2, .int .i64 N, .int .i64 m, .int .i64 0, .bool false, .int .i64 0, .int .i64 J, .int .i64 0, .int .i64 0, .int .i64 0, .int .i64 0, .int .i64 0, .int .i64 0, .slice none 0 0, .int .i64 0, .slice none 0 0] : Array Value) = bdV 2 N m (newX 2 N m) (newDK 2 m) (.slice none 0 0) (.slice none 0 0) := by
        intro J hJ
        subst hJ
        unfold bdV newX newDK
        rw [if_pos rfl]
        rfl
      by_cases h1 : m < 0
      · exact mono (hz _ (by unfold topX; rw [if_pos (by omega)]; rfl)) (dnew_2a N m w _ rfl hok hm' h1)
      · by_cases h2 : (1099511627776 : Int) < m
        · exact mono (hz _ (by unfold topX; rw [if_neg (by omega)]; omega)) (dnew_2b N m w _ rfl hok hm' h1 (decide_eq_true h2))
        · exact mono (hz _ (by unfold topX; rw [if_neg (by omega)]; omega)) (dnew_2c N m w _ rfl hok hm' h1 (decide_eq_false h2))
    · exact mono rfl (dnew_3 N m w hok hm')
  · have mono : ∀ {k : Nat}, newE K N m = k → Calls Tryz.prog 7 #[.agg #[.int .i64 K, .int .i64 N], .int .i64 m] w (fun e w' => e = .returned (.tuple #[.agg zzB, .int .i64 (k : Int)]) ∧ Below w.heap.size w w') → Calls Tryz.prog 7 #[.agg #[.int .i64 K, .int .i64 N], .int .i64 m] w (DNew K N m w) := by
      intro k hk h
      refine h.mono ?_
      subst hk
      rintro e w' ⟨rfl, hb⟩
      exact .inl ⟨h0, rfl, hb⟩
    cases hok : okFr K N with
    | false => exact mono (show newE K N m = 1 from by unfold newE; rw [if_pos (by rw [hok]; simp)]) (dnew_a K N m w hok)
    | true =>
      by_cases hm : m < -1
      · exact mono (show newE K N m = 1 from by unfold newE; rw [if_pos (fun h => by omega)]) (dnew_b K N m w hok hm)
      · have hk := of_decide_eq_true hok
        have h33 : (topX m : Int) < N := by
          unfold newE at h0
          rw [if_neg (fun h => h ⟨hok, by omega⟩)] at h0
          by_cases h5 : (topX m : Int) < N
          · exact h5
          · rw [if_neg h5] at h0; exact absurd rfl h0
        have hK1 : K = 1 := by omega
        subst hK1
        have hm0 : 0 ≤ m ∧ m < N := by
          unfold topX at h33
          by_cases h1 : m = -1
          · rw [if_pos h1] at h33; omega
          · rw [if_neg h1] at h33; omega
        exact mono (show newE 1 N m = 33 from by unfold newE; rw [if_neg (fun h => h ⟨hok, by omega⟩), if_pos h33]) (dnew_c N m w hok hm0.1 hm0.2)
end Go.Proofs.YtnlmjlfoeodleaaGreatDoor
