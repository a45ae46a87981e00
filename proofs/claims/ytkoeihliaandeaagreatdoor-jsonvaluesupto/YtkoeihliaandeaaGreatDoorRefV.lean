/- The document's numbers as plain functions: the states of their grammar are gone through byte by byte; the number of a text. -/
import Derived.Test.YtkoeihliaandeaaGreatDoorRv
import Derived.Test.YtkoeihliaandeaaGreatDoorFit
namespace Go.Proofs.YtkoeihliaandeaaGreatDoor
/-- The state behind a byte. -/
def nstepN (q X : Nat) : Option Nat :=
  if q = 0 ∧ X = 45 then some 1
  else if q ≤ 1 ∧ X = 48 then some 2
  else if q ≤ 1 ∧ (48 ≤ X ∧ X ≤ 57) then some 3
  else if q = 3 ∧ (48 ≤ X ∧ X ≤ 57) then some 3
  else if (q = 2 ∨ q = 3) ∧ X = 46 then some 4
  else if (q = 4 ∨ q = 5) ∧ (48 ≤ X ∧ X ≤ 57) then some 5
  else if (q = 2 ∨ q = 3 ∨ q = 5) ∧ (X = 101 ∨ X = 69) then some 6
  else if q = 6 ∧ (X = 43 ∨ X = 45) then some 7
  else if 6 ≤ q ∧ (48 ≤ X ∧ X ≤ 57) then some 8
  else none
def nrunU : Nat → B → Nat × B
  | q, [] => (q, [])
  | q, c :: t => match nstepN q c.toNat with
    | none => (q, c :: t)
    | some q' => nrunU q' t
def nend (q : Nat) (u : B) : Res Unit := if q < 2 ∨ q = 4 ∨ q = 6 ∨ q = 7 then .err 3 u else .ok () u
/-- The same, for so many bytes. -/
def nrun : Nat → Nat → B → Res Nat
  | _, q, [] => .ok q []
  | k, q, c :: t => match nstepN q c.toNat with
    | none => .ok q (c :: t)
    | some q' => match k with
      | 0 => .err 3 (c :: t)
      | k + 1 => nrun k q' t
def fin (p : Nat × B) : Res Unit := nend p.1 p.2
theorem byte_all {P : UInt8 → Prop} (h : ∀ n, n < 256 → P (UInt8.ofNat n)) (c : UInt8) : P c := by
  have := h c.toNat c.toNat_lt
  rwa [UInt8.ofNat_toNat] at this
theorem st0 (c : UInt8) : nstepN 0 c.toNat = if [45].contains c then some 1 else if [48].contains c then some 2 else if digitsL.contains c then some 3 else none := by
  revert c; refine byte_all ?_; decide +kernel
theorem st1 (c : UInt8) : nstepN 1 c.toNat = if [48].contains c then some 2 else if digitsL.contains c then some 3 else none := by
  revert c; refine byte_all ?_; decide +kernel
theorem st2 (c : UInt8) : nstepN 2 c.toNat = if [46].contains c then some 4 else if [101, 69].contains c then some 6 else none := by
  revert c; refine byte_all ?_; decide +kernel
theorem st3 (c : UInt8) : nstepN 3 c.toNat = if digitsL.contains c then some 3 else if [46].contains c then some 4 else if [101, 69].contains c then some 6 else none := by
  revert c; refine byte_all ?_; decide +kernel
theorem st4 (c : UInt8) : nstepN 4 c.toNat = if digitsL.contains c then some 5 else none := by
  revert c; refine byte_all ?_; decide +kernel
theorem st5 (c : UInt8) : nstepN 5 c.toNat = if digitsL.contains c then some 5 else if [101, 69].contains c then some 6 else none := by
  revert c; refine byte_all ?_; decide +kernel
theorem st6 (c : UInt8) : nstepN 6 c.toNat = if [43, 45].contains c then some 7 else if digitsL.contains c then some 8 else none := by
  revert c; refine byte_all ?_; decide +kernel
theorem st7 (c : UInt8) : nstepN 7 c.toNat = if digitsL.contains c then some 8 else none := by
  revert c; refine byte_all ?_; decide +kernel
theorem st8 (c : UInt8) : nstepN 8 c.toNat = if digitsL.contains c then some 8 else none := by
  revert c; refine byte_all ?_; decide +kernel
theorem step_some {q q' : Nat} {c : UInt8} {t : B} (h : nstepN q c.toNat = some q') : nrunU q (c :: t) = nrunU q' t := by
  simp only [nrunU, h]
theorem step_none {q : Nat} {c : UInt8} {t : B} (h : nstepN q c.toNat = none) : nrunU q (c :: t) = (q, c :: t) := by
  simp only [nrunU, h]
theorem skip_yes {S : B} {c : UInt8} {t : B} (h : S.contains c = true) : skip S (c :: t) = some t := by simp only [skip]; rw [if_pos h]
theorem skip_no {S : B} {c : UInt8} {t : B} (h : ¬ S.contains c = true) : skip S (c :: t) = none := by simp only [skip]; rw [if_neg h]
theorem skips_yes {S : B} {c : UInt8} {t : B} (h : S.contains c = true) : skips S (c :: t) = skips S t := by simp only [skips]; rw [if_pos h]
theorem skips_no {S : B} {c : UInt8} {t : B} (h : ¬ S.contains c = true) : skips S (c :: t) = c :: t := by simp only [skips]; rw [if_neg h]
theorem skip_nil (S : B) : skip S [] = none := rfl
theorem skipD_yes {S : B} {c : UInt8} {t : B} (h : S.contains c = true) : skipD S (c :: t) = t := by unfold skipD; rw [skip_yes h]; rfl
theorem skipD_no {S : B} {c : UInt8} {t : B} (h : ¬ S.contains c = true) : skipD S (c :: t) = c :: t := by unfold skipD; rw [skip_no h]; rfl
theorem run8 : ∀ l : B, nrunU 8 l = (8, skips digitsL l)
  | [] => rfl
  | c :: t => by
    by_cases h : digitsL.contains c = true
    · rw [step_some (q' := 8) (by rw [st8, if_pos h]), run8 t, skips_yes h]
    · rw [step_none (by rw [st8, if_neg h]), skips_no h]
theorem run7 (l : B) : fin (nrunU 7 l) = digits l := by
  cases l with
  | nil => rfl
  | cons c t =>
    by_cases h : digitsL.contains c = true
    · rw [step_some (q' := 8) (by rw [st7, if_pos h]), run8 t]
      unfold digits
      rw [skip_yes h]
      rfl
    · rw [step_none (by rw [st7, if_neg h])]
      unfold digits
      rw [skip_no h]
      rfl
theorem run6 (l : B) : fin (nrunU 6 l) = digits (skipD [43, 45] l) := by
  cases l with
  | nil => rfl
  | cons c t =>
    by_cases hs : [43, 45].contains c = true
    · rw [step_some (q' := 7) (by rw [st6, if_pos hs]), skipD_yes hs, run7]
    · rw [skipD_no hs]
      by_cases h : digitsL.contains c = true
      · rw [step_some (q' := 8) (by rw [st6, if_neg hs, if_pos h]), run8 t]
        unfold digits
        rw [skip_yes h]
        rfl
      · rw [step_none (by rw [st6, if_neg hs, if_neg h])]
        unfold digits
        rw [skip_no h]
        rfl
theorem exp_of (c : UInt8) (t : B) (q : Nat) (hq : fin (q, c :: t) = .ok () (c :: t)) (hst : nstepN q c.toNat = if [101, 69].contains c then some 6 else none) : fin (nrunU q (c :: t)) = numExp (c :: t) := by
  unfold numExp
  by_cases h : [101, 69].contains c = true
  · rw [step_some (q' := 6) (by rw [hst, if_pos h]), skip_yes h, run6]
  · rw [step_none (by rw [hst, if_neg h]), skip_no h, hq]
theorem run5 : ∀ l : B, fin (nrunU 5 l) = numExp (skips digitsL l)
  | [] => rfl
  | c :: t => by
    by_cases h : digitsL.contains c = true
    · rw [step_some (q' := 5) (by rw [st5, if_pos h]), run5 t, skips_yes h]
    · rw [skips_no h]
      exact exp_of c t 5 rfl (by rw [st5, if_neg h])
theorem run4 (l : B) : fin (nrunU 4 l) = match digits l with
    | .ok _ u => numExp u
    | .err k u => .err k u := by
  cases l with
  | nil => rfl
  | cons c t =>
    unfold digits
    by_cases h : digitsL.contains c = true
    · rw [step_some (q' := 5) (by rw [st4, if_pos h]), skip_yes h, run5]
    · rw [step_none (by rw [st4, if_neg h]), skip_no h]
      rfl
theorem frac_of (c : UInt8) (t : B) (q : Nat) (hq : fin (q, c :: t) = .ok () (c :: t)) (hst : nstepN q c.toNat = if [46].contains c then some 4 else if [101, 69].contains c then some 6 else none) : fin (nrunU q (c :: t)) = numFrac (c :: t) := by
  unfold numFrac
  by_cases h : [46].contains c = true
  · rw [step_some (q' := 4) (by rw [hst, if_pos h]), skip_yes h, run4]
    rfl
  · rw [skip_no h]
    exact exp_of c t q hq (by rw [hst, if_neg h])
theorem run2 (l : B) : fin (nrunU 2 l) = numFrac l := by
  cases l with
  | nil => rfl
  | cons c t => exact frac_of c t 2 rfl (st2 c)
theorem run3 : ∀ l : B, fin (nrunU 3 l) = numFrac (skips digitsL l)
  | [] => rfl
  | c :: t => by
    by_cases h : digitsL.contains c = true
    · rw [step_some (q' := 3) (by rw [st3, if_pos h]), run3 t, skips_yes h]
    · rw [skips_no h]
      exact frac_of c t 3 rfl (by rw [st3, if_neg h])
theorem head_of (c : UInt8) (t : B) (q : Nat) (hq : fin (q, c :: t) = .err 3 (c :: t)) (hst : nstepN q c.toNat = if [48].contains c then some 2 else if digitsL.contains c then some 3 else none) : fin (nrunU q (c :: t)) = numHead (c :: t) := by
  unfold numHead
  by_cases h : [48].contains c = true
  · rw [step_some (q' := 2) (by rw [hst, if_pos h]), skip_yes h, run2]
  · rw [skip_no h]
    unfold digits
    by_cases h2 : digitsL.contains c = true
    · rw [step_some (q' := 3) (by rw [hst, if_neg h, if_pos h2]), skip_yes h2, run3]
    · rw [step_none (by rw [hst, if_neg h, if_neg h2]), skip_no h2, hq]
theorem run1 (l : B) : fin (nrunU 1 l) = numHead l := by
  cases l with
  | nil => rfl
  | cons c t => exact head_of c t 1 rfl (st1 c)
theorem run0 (l : B) : fin (nrunU 0 l) = numParts l := by
  unfold numParts
  cases l with
  | nil => rfl
  | cons c t =>
    by_cases h : [45].contains c = true
    · rw [step_some (q' := 1) (by rw [st0, if_pos h]), skipD_yes h, run1]
    · rw [skipD_no h]
      exact head_of c t 0 rfl (by rw [st0, if_neg h])
theorem nend_left (q : Nat) (u : B) : (nend q u).left = u := by
  unfold nend
  split <;> rfl
theorem runU_le : ∀ (l : B) (q : Nat), (nrunU q l).2.length ≤ l.length
  | [], q => by simp [nrunU]
  | c :: t, q => by
    cases h : nstepN q c.toNat with
    | none => rw [step_none h]; exact Nat.le_refl _
    | some q' =>
      rw [step_some h]
      have := runU_le t q'
      simp only [List.length_cons]
      omega
theorem nrun_eq : ∀ (l : B) (k q : Nat), nrun k q l = if l.length - (nrunU q l).2.length ≤ k then .ok (nrunU q l).1 (nrunU q l).2 else .err 3 (l.drop k)
  | [], k, q => by simp [nrun, nrunU]
  | c :: t, k, q => by
    cases h : nstepN q c.toNat with
    | none =>
      rw [step_none h]
      simp [nrun, h]
    | some q' =>
      rw [step_some h]
      have hle := runU_le t q'
      cases k with
      | zero =>
        rw [if_neg (by simp only [List.length_cons]; omega)]
        simp [nrun, h]
      | succ k =>
        have e : nrun (k + 1) q (c :: t) = nrun k q' t := by simp only [nrun, h]
        rw [e, nrun_eq t k q']
        by_cases hk : t.length - (nrunU q' t).2.length ≤ k
        · rw [if_pos hk, if_pos (by simp only [List.length_cons]; omega)]
        · rw [if_neg hk, if_neg (by simp only [List.length_cons]; omega)]
          rfl
/-- A number, state by state. -/
def numM (r : Res Nat) : Res Unit := match r with
  | .ok q u => nend q u
  | .err k u => .err k u
theorem number_run (l : B) : number l = numM (nrun 64 0 l) := by
  unfold number
  rw [nrun_eq, ← run0]
  have e : (fin (nrunU 0 l)).left = (nrunU 0 l).2 := nend_left _ _
  rw [e]
  by_cases h : l.length - (nrunU 0 l).2.length ≤ 64
  · rw [if_neg (by omega), if_pos h]
    rfl
  · rw [if_pos (by omega), if_neg h]
    rfl
theorem nstep_nought (q : Nat) : nstepN q 0 = none := by
  unfold nstepN
  (repeat' split) <;> first | rfl | (exfalso; omega)
theorem nrun_none {q : Nat} {l : B} (k : Nat) (h : nstepN q (nx l).toNat = none) : nrun k q l = .ok q l := by
  cases l with
  | nil => simp only [nrun]
  | cons c t =>
    have h2 : nstepN q c.toNat = none := h
    simp only [nrun, h2]
theorem nrun_some {q q' : Nat} {l : B} (h : nstepN q (nx l).toNat = some q') : ∃ c t, l = c :: t ∧ nrun 0 q l = .err 3 l ∧ ∀ k, nrun (k + 1) q l = nrun k q' t := by
  cases l with
  | nil =>
    have h2 : nstepN q 0 = some q' := h
    rw [nstep_nought] at h2
    cases h2
  | cons c t =>
    have h2 : nstepN q c.toNat = some q' := h
    refine ⟨c, t, rfl, ?_, fun k => ?_⟩ <;> simp only [nrun, h2]
theorem nrun_le : ∀ (l : B) (k q q2 : Nat) (u : B), nrun k q l = .ok q2 u → u.length ≤ l.length ∧ l.length - u.length ≤ k := fun l k q q2 u h => by
  rw [nrun_eq] at h
  have hle := runU_le l q
  split at h
  · injection h with h1 h2
    rw [← h2]
    omega
  · cases h
/-- The whole number below 0 of digits, behind others that make n. -/
def magN : Int → B → Option Int
  | n, [] => some n
  | n, c :: t => if 48 ≤ c.toNat ∧ c.toNat ≤ 57 then (if n < (-9223372036854775808 + ((c.toNat : Int) - 48)).tdiv 10 then none else magN (n * 10 - ((c.toNat : Int) - 48)) t) else none
def numNeg : Option Int → Bool × Int
  | some n => (true, n)
  | none => (false, 0)
def numPos : Option Int → Bool × Int
  | some n => if n = -9223372036854775808 then (false, 0) else (true, -n)
  | none => (false, 0)
/-- Whether a number's text is a whole number, and which. -/
def numN (t : B) : Bool × Int := if nx t = 45 then numNeg (magN 0 (t.drop 1)) else numPos (magN 0 t)
theorem uint_ge : ∀ (l : B) (a u : Nat), Lib.parseUint10 a l = .ok u → a ≤ u
  | [], a, u, h => by
    simp only [Lib.parseUint10] at h
    injection h with h
    omega
  | c :: r, a, u, h => by
    simp only [Lib.parseUint10] at h
    split at h
    · split at h
      · cases h
      · split at h
        · cases h
        · have := uint_ge r _ u h
          omega
    · cases h
theorem tdiv_neg (d : Nat) (h : d ≤ 9) : (-9223372036854775808 + (d : Int)).tdiv 10 = -(((9223372036854775808 - d) / 10 : Nat) : Int) := by
  have e : (-9223372036854775808 + (d : Int)) = -(((9223372036854775808 - d : Nat)) : Int) := by omega
  rw [e, Int.neg_tdiv]
  congr 1
theorem mag_uint : ∀ (l : B) (a : Nat), a ≤ 9223372036854775808 → magN (-(a : Int)) l = match Lib.parseUint10 a l with
    | .ok u => if u ≤ 9223372036854775808 then some (-(u : Int)) else none
    | _ => none
  | [], a, h => by
    simp only [magN, Lib.parseUint10]
    rw [if_pos h]
  | c :: t, a, h => by
    simp only [magN, Lib.parseUint10]
    by_cases hd : 48 ≤ c.toNat ∧ c.toNat ≤ 57
    · rw [if_pos hd, if_pos hd]
      obtain ⟨d, hdd⟩ : ∃ d, c.toNat - 48 = d := ⟨_, rfl⟩
      have e1 : ((c.toNat : Int) - 48) = (d : Int) := by omega
      have hd9 : d ≤ 9 := by omega
      rw [e1, hdd, tdiv_neg d hd9]
      by_cases hbig : 9223372036854775808 < a * 10 + d
      · rw [if_pos (by omega)]
        split
        · next u hu =>
          by_cases h1 : 1844674407370955162 ≤ a
          · rw [if_pos h1] at hu; cases hu
          · rw [if_neg h1] at hu
            by_cases h2 : 18446744073709551616 ≤ a * 10 + d
            · rw [if_pos h2] at hu; cases hu
            · rw [if_neg h2] at hu
              have := uint_ge t _ u hu
              rw [if_neg (by omega)]
        · rfl
      · rw [if_neg (by omega), if_neg (by omega), if_neg (by omega)]
        have e2 : (-(a : Int)) * 10 - (d : Int) = -((a * 10 + d : Nat) : Int) := by push_cast; omega
        rw [e2]
        exact mag_uint t (a * 10 + d) (by omega)
    · rw [if_neg hd, if_neg hd]
theorem num_first {c : UInt8} {r : B} (h : isNum (c :: r) = true) : c.toNat ≠ 43 ∧ (c.toNat = 45 → r ≠ []) := by
  have h1 := (number_parts (isNum_ok h)).1
  rw [← run0] at h1
  constructor
  · intro h43
    have e : nstepN 0 c.toNat = none := by rw [h43]; rfl
    rw [step_none e] at h1
    cases h1
  · intro h45 hr
    subst hr
    have e : nstepN 0 c.toNat = some 1 := by rw [h45]; rfl
    rw [step_some e] at h1
    cases h1
theorem num_text {t : B} (h : isNum t = true) : numV t = .mk 3 false t (numN t).2 (numN t).1 [] [] := by
  obtain ⟨c, r, rfl, _⟩ := num_head h
  obtain ⟨h43, h45⟩ := num_first h
  have hc45 : (nx (c :: r) = 45) ↔ c.toNat = 45 := ⟨fun e => by rw [show c = 45 from e]; rfl, fun e => UInt8.toNat_inj.1 e⟩
  unfold numV numN Lib.atoiAll
  by_cases e : c.toNat = 45
  · rw [if_pos (hc45.2 e)]
    have hr := h45 e
    have hm := mag_uint r 0 (by omega)
    simp only [Int.ofNat_zero, Int.neg_zero] at hm
    simp only [e, List.drop_one, List.tail_cons, Lib.parseMag, hr, if_false, or_true, if_true]
    rw [hm]
    cases hp : Lib.parseUint10 0 r with
    | «syntax» => rfl
    | range => rfl
    | ok u =>
      simp only [not_true, false_and, if_false, true_and]
      by_cases hu : u ≤ 9223372036854775808
      · rw [if_pos hu, if_neg (show ¬ 9223372036854775808 < u by omega)]
        rfl
      · rw [if_neg hu, if_pos (show 9223372036854775808 < u by omega)]
        rfl
  · rw [if_neg (fun x => e (hc45.1 x))]
    have hm := mag_uint (c :: r) 0 (by omega)
    simp only [Int.ofNat_zero, Int.neg_zero] at hm
    simp only [e, h43, Lib.parseMag, or_self, if_false, reduceCtorEq]
    rw [hm]
    cases hp : Lib.parseUint10 0 (c :: r) with
    | «syntax» => rfl
    | range => rfl
    | ok u =>
      simp only [not_false_eq_true, false_and, if_false, true_and]
      by_cases hu : u ≤ 9223372036854775808
      · rw [if_pos hu]
        by_cases hv : u = 9223372036854775808
        · subst hv
          rfl
        · rw [if_neg (show ¬ 9223372036854775808 ≤ u by omega)]
          simp only [numPos]
          rw [if_neg (show ¬ -(u : Int) = -9223372036854775808 by omega)]
          simp
      · rw [if_neg hu, if_pos (show 9223372036854775808 ≤ u by omega)]
        rfl
end Go.Proofs.YtkoeihliaandeaaGreatDoor
/- The document's answers on values as plain functions: how deep, whether sound, what is put. -/
namespace Go.Proofs.YtkoeihliaandeaaGreatDoor

theorem fold_min {α : Type} (m : Nat) (f : α → Nat) : ∀ (ls : List α) (a : Nat), (ls.map fun x => min m (f x)).foldl max (min m a) = min m ((ls.map f).foldl max a)
  | [], a => rfl
  | x :: xs, a => by
    simp only [List.map_cons, List.foldl_cons]
    rw [show max (min m a) (min m (f x)) = min m (max a (f x)) by omega]
    exact fold_min m f xs (max a (f x))
theorem depth_min : ∀ (m M : Nat) (t : JV), m ≤ M → depthN m t = min m (depthN M t)
  | 0, M, t, _ => by simp [depthN]
  | m + 1, 0, t, h => by omega
  | m + 1, M + 1, .mk k b tx n h ls ns, hm => by
    simp only [depthN]
    split
    · have e : ls.map (depthN m) = ls.map fun x => min m (depthN M x) := List.map_congr_left fun x _ => depth_min m M x (by omega)
      have := fold_min m (depthN M) ls 0
      rw [Nat.min_zero] at this
      rw [e, this]
      omega
    · simp
theorem deep_more (t : JV) : 32 < depthN 33 t ↔ 32 < depthN 10000 t := by
  rw [depth_min 33 10000 t (by decide)]
  omega
mutual
/-- Whether a value may be but for names that are there twice; whether one is. -/
def soundV : JV → Bool × Bool
  | .mk k b t n h ls ns => if formed (.mk k b t n h ls ns) = false then (false, false) else sounds (twice ns) ls
def sounds : Bool → List JV → Bool × Bool
  | tw, [] => (true, tw)
  | tw, x :: xs => if (soundV x).1 = false then (false, false) else sounds (tw || (soundV x).2) xs
end
def codeS (p : Bool × Bool) : Nat := if p.1 = false then 3 else if p.2 = true then 6 else 0
mutual
theorem fault_sound : ∀ t : JV, fault t = codeS (soundV t)
  | .mk k b t n h ls ns => by
    simp only [fault, soundV]
    by_cases hf : formed (.mk k b t n h ls ns) = false
    · rw [if_pos hf, if_pos hf]
      rfl
    · rw [if_neg hf, if_neg hf]
      exact faults_sound (twice ns) ls
theorem faults_sound : ∀ (tw : Bool) (ls : List JV), faults (if tw = true then 6 else 0) ls = codeS (sounds tw ls)
  | tw, [] => by
    simp only [faults, sounds, codeS]
    cases tw <;> rfl
  | tw, x :: xs => by
    have hx := fault_sound x
    simp only [faults, sounds]
    obtain ⟨a, c, hac⟩ : ∃ a c, soundV x = (a, c) := ⟨_, _, rfl⟩
    rw [hac] at hx ⊢
    rw [hx]
    cases a with
    | false => rfl
    | true =>
      have e : codeS (true, c) = if c = true then 6 else 0 := by cases c <;> rfl
      rw [e]
      have i := faults_sound (tw || c) xs
      cases c with
      | false => simpa using i
      | true => simpa using i
end
theorem valid_sound (t : JV) : validN t = if 32 < depthN 10000 t then 5 else codeS (soundV t) := by
  unfold validN
  rw [fault_sound]
  by_cases h : 32 < depthN 33 t
  · rw [if_pos h, if_pos ((deep_more t).1 h)]
  · rw [if_neg h, if_neg (fun x => h ((deep_more t).2 x))]
/-- A name that is there already. -/
def dup : List B → List B → Bool
  | _, [] => false
  | seen, x :: l => seen.contains x || dup (seen ++ [x]) l
theorem dup_fresh : ∀ (l seen : List B), dup seen l = false ↔ Fresh seen l
  | [], seen => by simp [dup, Fresh]
  | x :: l, seen => by
    simp only [dup, Fresh, Bool.or_eq_false_iff, dup_fresh l (seen ++ [x])]
theorem twice_dup (ns : List B) : twice ns = dup [] ns := by
  cases hd : dup [] ns with
  | false => exact twice_fresh ((dup_fresh ns []).1 hd)
  | true =>
    cases ht : twice ns with
    | true => rfl
    | false =>
      have := (dup_fresh ns []).2 (fresh_of ht)
      rw [this] at hd
      cases hd
theorem dup_step {ns : List B} {i : Nat} (h : i < ns.length) : dup (ns.take i) (ns.drop i) = ((ns.take i).contains ns[i] || dup (ns.take (i + 1)) (ns.drop (i + 1))) := by
  rw [drop_get h]
  simp only [dup]
  rw [List.take_add_one, List.getElem?_eq_getElem h]
  rfl
/-- Bytes are put behind others, as long as there are not too many. -/
def PT (acc out acc' : B) : Prop := (acc.length + out.length ≤ 1048576 → acc' = acc ++ out) ∧ (1048576 < acc.length + out.length → 1048576 < acc'.length) ∧ acc.length ≤ acc'.length ∧ acc'.length ≤ acc.length + out.length
theorem PT.all (acc out : B) : PT acc out (acc ++ out) := ⟨fun _ => rfl, fun h => by simpa using h, by simp, by simp⟩
theorem PT.stop {acc : B} (h : 1048576 < acc.length) (out : B) : PT acc out acc := ⟨fun h2 => by omega, fun _ => h, Nat.le_refl _, by omega⟩
theorem PT.trans {a b c o1 o2 : B} (h : PT a o1 b) (k : PT b o2 c) : PT a (o1 ++ o2) c := by
  obtain ⟨h1, h2, h3, h4⟩ := h
  obtain ⟨k1, k2, k3, k4⟩ := k
  unfold PT
  rw [List.length_append]
  refine ⟨fun hl => ?_, fun hl => ?_, by omega, by omega⟩
  · have e1 := h1 (by omega)
    have e2 := k1 (by rw [e1, List.length_append]; omega)
    rw [e2, e1, List.append_assoc]
  · by_cases ha : a.length + o1.length ≤ 1048576
    · have e1 := h1 ha
      exact k2 (by rw [e1, List.length_append]; omega)
    · have := h2 (by omega)
      omega
end Go.Proofs.YtkoeihliaandeaaGreatDoor
