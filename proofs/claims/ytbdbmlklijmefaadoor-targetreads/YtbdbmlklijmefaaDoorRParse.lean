/- The document's parts of a target. -/
import Derived.Test.YtbdbmlklijmefaaDoorRTg
namespace Go.Proofs.YtbdbmlklijmefaaDoor
open Go.RowKit

theorem rbehind_any (f : Int) (hf : f = 1 ∨ f = 2) (h s : B) (hs : s.length ≤ 35184372088832) (w : World) : Calls Tryd.prog 30 #[tgV ⟨f, h, [], [], false⟩, .string (str s)] w fun e w' => e = .returned (.tuple #[tgV (behindB f h s).1, .int .i64 ((behindB f h s).2 : Int)]) ∧ Below w.heap.size w w' := by
  obtain ⟨⟨A, Q, K⟩, hc⟩ : ∃ R, cutF 63 s = R := ⟨_, rfl⟩
  by_cases hA : A = []
  · rcases hf with hf | hf
    · exact rbehind_none f h s hs A _ Q K hc rfl hA hf w
    · exact rbehind_root f h s hs A _ Q K hc rfl hA hf w
  · exact rbehind_some f h s hs A _ Q K hc rfl hA w
/-- The block of what is handed out. -/
structure PW (w W : World) : Prop where
  o : W.heap[w.heap.size]? = some (.cells #[.int .i64 0, .string ⟨#[]⟩, .string ⟨#[]⟩, .string ⟨#[]⟩, .bool false] 28 (0, 0))
  low : Below w.heap.size w W
theorem PW.start {w W0 : World} (h : W0 = w.alloc (.cells #[.int .i64 0, .string ⟨#[]⟩, .string ⟨#[]⟩, .string ⟨#[]⟩, .bool false] 28 (0, 0))) : PW w W0 := by
  subst h
  exact ⟨heap_alloc_new _ _, below_new _ _⟩
theorem PW.below {w W V : World} (h : PW w W) (hb : Below W.heap.size W V) : PW w V := ⟨(hb.block _ (lt_of_heap h.o)).trans h.o, h.low.trans (hb.mono h.low.size)⟩
theorem PW.drew {w W : World} (h : PW w W) : PW w W.drew := ⟨h.o, ⟨h.low.os, h.low.tape, h.low.output, h.low.size, h.low.block⟩⟩
theorem PW.out {w W : World} (h : PW w W) (a0 a1 a2 a3 a4 : Value) : Below w.heap.size w (((((W.setCell ⟨w.heap.size, 0, none⟩ a0).setCell ⟨w.heap.size, 1, none⟩ a1).setCell ⟨w.heap.size, 2, none⟩ a2).setCell ⟨w.heap.size, 3, none⟩ a3).setCell ⟨w.heap.size, 4, none⟩ a4) := by
  iterate 5 refine Below.setCell ?_ (show w.heap.size ≤ w.heap.size from Nat.le_refl _) _
  exact h.low
theorem tw_gen {p : UInt8 → Bool} {l : B} {m : Nat} (h : ∀ y ∈ l.take m, p y = true) (he : l.length ≤ m ∨ ∃ z, l[m]? = some z ∧ p z = false) : l.takeWhile p = l.take m ∧ l.dropWhile p = l.drop m := by
  induction m generalizing l with
  | zero =>
    cases l with
    | nil => exact ⟨rfl, rfl⟩
    | cons b l =>
      rcases he with he | ⟨z, he, hz⟩
      · simp at he
      · simp at he
        subst he
        rw [List.takeWhile_cons, List.dropWhile_cons, hz]
        exact ⟨rfl, rfl⟩
  | succ m ih =>
    cases l with
    | nil => exact ⟨rfl, rfl⟩
    | cons b l =>
      have hb := h b (by simp)
      rw [List.takeWhile_cons, List.dropWhile_cons, hb, List.take_succ_cons, List.drop_succ_cons]
      obtain ⟨e1, e2⟩ := ih (l := l) (fun y hy => h y (by simp [hy])) (by
        rcases he with he | ⟨z, he, hz⟩
        · left; simp at he; omega
        · right; exact ⟨z, by simpa using he, hz⟩)
      simp only [if_true]
      exact ⟨by rw [e1], e2⟩
set_option maxRecDepth 20000 in
set_option maxHeartbeats 8000000 in
theorem rparse_long (s : B) (h : 65536 < s.length) (hs : s.length ≤ 35184372088832) (w : World) : Calls Tryd.prog 10 #[.string (str s)] w fun e w' => e = .returned (.tuple #[tgV (parseT s).1, .int .i64 ((parseT s).2 : Int)]) ∧ Below w.heap.size w w' := by
  obtain ⟨W0, hW0⟩ : ∃ W0, W0 = w.alloc (.cells #[.int .i64 0, .string ⟨#[]⟩, .string ⟨#[]⟩, .string ⟨#[]⟩, .bool false] 28 (0, 0)) := ⟨_, rfl⟩
  have HW0 := hid hW0
  have HT0 := hid (PW.start hW0)
  obtain ⟨_, _, _, _, _, oz⟩ := five HT0.out.o
  rw [hW0] at oz
  have nz0 := oz 0
  have nz1 := oz 1
  have nz2 := oz 2
  have nz3 := oz 3
  have nz4 := oz 4
  clear hW0 oz
  have HV := hid (show parseT s = (TG.zero, 2) from by unfold parseT; rw [if_pos h])
  obtain ⟨n, hn⟩ : ∃ n : Int, (s.length : Int) = n := ⟨_, rfl⟩
  have hn1 : (65536 : Int) < n := by omega
  obtain ⟨S, hS⟩ : ∃ S, str s = S := ⟨_, rfl⟩
  have hSn : (S.size : Int) = n := by rw [← hS, str_size, hn]
  rw [hS]
  have hdec : decide ((65536 : Int) < (S.size : Int)) = true := by rw [hSn]; simpa using hn1
  rw [HV.out]
  clear hS hn h hs hSn hn1
  go_enter Tryd.func10, Tryd.ntmps10
  go_wp2
  (try simp only [Exit.inBlock, Exit.then])
  refine bodyPost_ret (results_tgtmp rfl _ _ _ 28 _ (0, 0) rfl (heap_alloc_new w _) rfl) rfl ?_
  exact ⟨rfl, below_new _ _⟩
set_option maxRecDepth 20000 in
set_option maxHeartbeats 8000000 in
theorem rparse_star (s : B) (h : s = [42]) (w : World) : Calls Tryd.prog 10 #[.string (str s)] w fun e w' => e = .returned (.tuple #[tgV (parseT s).1, .int .i64 ((parseT s).2 : Int)]) ∧ Below w.heap.size w w' := by
  obtain ⟨W0, hW0⟩ : ∃ W0, W0 = w.alloc (.cells #[.int .i64 0, .string ⟨#[]⟩, .string ⟨#[]⟩, .string ⟨#[]⟩, .bool false] 28 (0, 0)) := ⟨_, rfl⟩
  have HW0 := hid hW0
  have HT0 := hid (PW.start hW0)
  obtain ⟨_, _, _, _, _, oz⟩ := five HT0.out.o
  rw [hW0] at oz
  have nz0 := oz 0
  have nz1 := oz 1
  have nz2 := oz 2
  have nz3 := oz 3
  have nz4 := oz 4
  clear hW0 oz
  subst h
  have HV := hid (show parseT [42] = (⟨3, [], [], [], false⟩, 0) from by decide)
  rw [HV.out]
  go_enter Tryd.func10, Tryd.ntmps10
  go_wp2
  (try simp only [Exit.inBlock, Exit.then])
  refine bodyPost_ret (results_tgtmp rfl _ _ _ 28 _ (0, 0) rfl (heap_alloc_new w _) rfl) rfl ?_
  exact ⟨rfl, below_new _ _⟩
end Go.Proofs.YtbdbmlklijmefaaDoor
