/- Bodies framed in each way, read: what comes of just so many bytes, and of one too many. -/
import Derived.Test.YtllbdpiihiohoaaDoorBLaw
import Derived.Test.YtllbdpiihiohoaaDoorKBackP
namespace Go.Proofs.YtllbdpiihiohoaaDoor
open Go.RowKit

theorem okFr_1 {n : Nat} (h : n ≤ 1099511627776) : okFr 1 (n : Int) = true := by unfold okFr; exact decide_eq_true (by omega)
theorem okFr_0 : okFr 0 0 = true ∧ okFr 2 0 = true ∧ okFr 3 0 = true := by decide
theorem topX_nat (n : Nat) : topX (n : Int) = n := by unfold topX; rw [if_neg (by omega)]; omega
theorem newE_ok {K N : Int} {n : Nat} (hk : okFr K N = true) (h : N ≤ (n : Int)) : newE K N (n : Int) = 0 := by
  unfold newE
  rw [if_neg (fun h9 => h9 ⟨hk, by omega⟩), topX_nat, if_neg (by omega)]
theorem whole_of {K N m : Int} {l : B} {s : BS} {S : B} {T : Nat} (h0 : newE K N m = 0) (hs : newX K N m = s) (he : (shutX (fedX s l)).err = 0) (hS : saidX s l = S) (hT : tookX s l = T) : wholeX K N m l = 0 ∧ saidX (newX K N m) l = S ∧ tookX (newX K N m) l = T := by
  subst hs
  refine ⟨?_, hS, hT⟩
  unfold wholeX
  rw [if_pos h0]
  exact he
theorem back_1 {b : B} {n : Nat} (hb : b.length = n) (hn : n ≤ 1048576) (x : B) : wholeX 1 (n : Int) (n : Int) (b ++ x) = 0 ∧ saidX (newX 1 (n : Int) (n : Int)) (b ++ x) = b ∧ tookX (newX 1 (n : Int) (n : Int)) (b ++ x) = n := by
  have hs : newX 1 (n : Int) (n : Int) = ⟨1, n, 0, decide (n = 0), 0, newK n⟩ := by
    unfold newX
    rw [topX_nat, if_pos rfl, show min n 1099511627776 = n from by omega]
    simp
  refine whole_of (newE_ok (okFr_1 (by omega)) (Int.le_refl _)) hs ?_ ?_ ?_
  all_goals by_cases h0 : n = 0
  · have ho : overX (⟨1, n, 0, decide (n = 0), 0, newK n⟩ : BS) = true := by unfold overX; simp [h0]
    rw [(over_yes ho _).1, shut_over ho]
  · have ho : overX (⟨1, n, 0, decide (n = 0), 0, newK n⟩ : BS) = false := by unfold overX; simp [h0]
    rw [(fed_1 ho rfl _).1, shut_over (by unfold overX; simp; omega)]
  · have ho : overX (⟨1, n, 0, decide (n = 0), 0, newK n⟩ : BS) = true := by unfold overX; simp [h0]
    rw [(over_yes ho _).2.2]
    exact (List.eq_nil_of_length_eq_zero (by omega)).symm
  · have ho : overX (⟨1, n, 0, decide (n = 0), 0, newK n⟩ : BS) = false := by unfold overX; simp [h0]
    rw [(fed_1 ho rfl _).2.2]
    show (b ++ x).take n = b
    rw [← hb, List.take_left]
  · have ho : overX (⟨1, n, 0, decide (n = 0), 0, newK n⟩ : BS) = true := by unfold overX; simp [h0]
    rw [(over_yes ho _).2.1, h0]
  · have ho : overX (⟨1, n, 0, decide (n = 0), 0, newK n⟩ : BS) = false := by unfold overX; simp [h0]
    rw [(fed_1 ho rfl _).2.1, List.length_append]
    show min (b.length + x.length) n = n
    omega
theorem back_3 {b : B} {n : Nat} (hb : b.length = n) (hn : n ≤ 1048576) : wholeX 3 0 (n : Int) b = 0 ∧ saidX (newX 3 0 (n : Int)) b = b ∧ tookX (newX 3 0 (n : Int)) b = n := by
  have hs : newX 3 0 (n : Int) = ⟨3, n, 0, false, 0, newK n⟩ := by
    unfold newX
    rw [topX_nat, if_neg (by decide), if_pos rfl, show min n 1099511627776 = n from by omega]
    simp
  have ho : overX (⟨3, n, 0, false, 0, newK n⟩ : BS) = false := rfl
  obtain ⟨f1, f2, f3⟩ := fed_3 ho (show (3 : Nat) ≠ 2 by decide) (show (3 : Nat) ≠ 1 by decide) b
  have hlt : ¬ n < b.length := by omega
  refine whole_of (newE_ok okFr_0.2.2 (by omega)) hs ?_ ?_ ?_
  · rw [f1]
    dsimp only
    rw [if_neg hlt, shut_3 rfl rfl]
  · rw [f3]; exact List.take_of_length_le (by dsimp only; omega)
  · rw [f2]; dsimp only; rw [if_neg hlt]; exact hb
theorem back_0 (l : B) : wholeX 0 0 0 l = 0 ∧ saidX (newX 0 0 0) l = [] ∧ tookX (newX 0 0 0) l = 0 := by
  have ho : overX (newX 0 0 0) = true := by decide
  refine whole_of (newE_ok (n := 0) okFr_0.1 (by decide)) rfl ?_ (over_yes ho l).2.2 (over_yes ho l).2.1
  rw [(over_yes ho l).1, shut_over ho]
  rfl
theorem newX_2 {n : Nat} (hn : n ≤ 1048576) : newX 2 0 (n : Int) = ⟨2, 0, 0, false, 0, newK n⟩ := by
  unfold newX
  rw [topX_nat, if_neg (by decide), if_neg (by decide), show min n 1099511627776 = n from by omega]
  simp
def lastC : B := [48, 13, 10, 13, 10]
theorem lastC_eq : lastC = lastK [] := rfl
theorem back_2 {b1 b2 : B} {n : Nat} (hb : (b1 ++ b2).length = n) (hn : n ≤ 1048576) (x : B) : wholeX 2 0 (n : Int) (((encK b1 ++ encK b2) ++ lastC) ++ x) = 0 ∧ saidX (newX 2 0 (n : Int)) (((encK b1 ++ encK b2) ++ lastC) ++ x) = b1 ++ b2 ∧ tookX (newX 2 0 (n : Int)) (((encK b1 ++ encK b2) ++ lastC) ++ x) = (encK b1 ++ encK b2).length + 5 := by
  rw [List.length_append] at hb
  obtain ⟨s', hf, he, hst, _⟩ := fed_whole [b1, b2] (fun p hp => by simp at hp; rcases hp with rfl | rfl <;> omega) [] (by decide) n (by simp; omega)
  rw [show [b1, b2].flatMap encK = encK b1 ++ encK b2 from by simp, show [b1, b2].flatten = b1 ++ b2 from by simp, ← lastC_eq] at hf
  obtain ⟨g1, g2, g3⟩ := hf.ends (by unfold endedK; simp [hst]) x
  have ho : overX (⟨2, 0, 0, false, 0, newK n⟩ : BS) = false := rfl
  obtain ⟨f1, f2, f3⟩ := fed_2 ho rfl (((encK b1 ++ encK b2) ++ lastC) ++ x)
  refine whole_of (newE_ok okFr_0.2.1 (by omega)) (newX_2 hn) ?_ ?_ ?_
  · rw [f1, shut_over (by unfold overX; dsimp only; rw [g1, hst]; rfl)]
    dsimp only
    rw [g1]; exact he
  · rw [f3]; exact g3
  · rw [f2]; dsimp only; rw [g2, List.length_append]; rfl
theorem much_1 {n : Nat} (hn : n ≤ 1048576) (h0 : 0 < n) (l : B) : wholeX 1 (n : Int) ((n : Int) - 1) l = 33 := by
  have e : newE 1 (n : Int) ((n : Int) - 1) = 33 := by
    unfold newE
    rw [if_neg (fun h9 => h9 ⟨okFr_1 (by omega), by omega⟩), if_pos]
    unfold topX
    rw [if_neg (by omega)]
    omega
  unfold wholeX
  rw [e]
  rfl
theorem pre_nat {n : Nat} (h0 : 0 < n) : ((n : Int) - 1) = ((n - 1 : Nat) : Int) := by omega
theorem much_3 {b : B} {n : Nat} (hb : b.length = n) (hn : n ≤ 1048576) (h0 : 0 < n) : wholeX 3 0 ((n : Int) - 1) b = 33 := by
  rw [pre_nat h0]
  have hs : newX 3 0 ((n - 1 : Nat) : Int) = ⟨3, n - 1, 0, false, 0, newK (n - 1)⟩ := by
    unfold newX
    rw [topX_nat, if_neg (by decide), if_pos rfl, show min (n - 1) 1099511627776 = n - 1 from by omega]
    simp
  have ho : overX (⟨3, n - 1, 0, false, 0, newK (n - 1)⟩ : BS) = false := rfl
  obtain ⟨f1, _, _⟩ := fed_3 ho (show (3 : Nat) ≠ 2 by decide) (show (3 : Nat) ≠ 1 by decide) b
  unfold wholeX
  rw [if_pos (newE_ok okFr_0.2.2 (by omega)), hs, f1]
  dsimp only
  rw [if_pos (show n - 1 < b.length by omega), shut_over rfl]
theorem much_2 {b1 b2 : B} {n : Nat} (hb : (b1 ++ b2).length = n) (hn : n ≤ 1048576) (h0 : 0 < n) (x : B) : wholeX 2 0 ((n : Int) - 1) ((encK b1 ++ encK b2) ++ x) = 33 := by
  rw [pre_nat h0]
  rw [List.length_append] at hb
  have hf := fed_over [b1, b2] (fun p hp => by simp at hp; rcases hp with rfl | rfl <;> omega) (n - 1) (by simp; omega) x
  rw [show [b1, b2].flatMap encK = encK b1 ++ encK b2 from by simp] at hf
  have ho : overX (⟨2, 0, 0, false, 0, newK (n - 1)⟩ : BS) = false := rfl
  obtain ⟨f1, _, _⟩ := fed_2 ho rfl ((encK b1 ++ encK b2) ++ x)
  unfold wholeX
  rw [if_pos (newE_ok okFr_0.2.1 (by omega)), newX_2 (by omega), f1, shut_over (by unfold overX; dsimp only; rw [hf]; simp)]
  exact hf
theorem encK_max (l : B) (h : l.length ≤ 1048576) : (encK l).length ≤ l.length + 68 := by
  unfold encK
  split
  · simp
  · have := told_len16 l.length (by omega)
    simp only [List.length_append, List.length_cons, List.length_nil]
    omega
end Go.Proofs.YtllbdpiihiohoaaDoor
