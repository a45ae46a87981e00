/- The document's reading: what stands behind a backslash. -/
import Derived.Test.YtkoeihliaandeaaGreatDoorRefE
namespace Go.Proofs.YtkoeihliaandeaaGreatDoor
open Go.RowKit

abbrev fromC : ByteArray := ⟨#[34, 92, 47, 98, 102, 110, 114, 116]⟩
abbrev toC : ByteArray := ⟨#[34, 92, 47, 8, 12, 10, 13, 9]⟩
def fromN (i : Nat) : Nat := ([34, 92, 47, 98, 102, 110, 114, 116] : List Nat).getD i 0
def toN (i : Nat) : Nat := ([34, 92, 47, 8, 12, 10, 13, 9] : List Nat).getD i 0
theorem fromC_at (i : Nat) (hi : i < 8) : ∀ (j : Nat) (h : j < fromC.size), j = i → (fromC[j]'h).toNat = fromN i := by
  intro j h e
  subst e
  obtain rfl | rfl | rfl | rfl | rfl | rfl | rfl | rfl : j = 0 ∨ j = 1 ∨ j = 2 ∨ j = 3 ∨ j = 4 ∨ j = 5 ∨ j = 6 ∨ j = 7 := by omega
  all_goals rfl
theorem toC_at (i : Nat) (hi : i < 8) : ∀ (j : Nat) (h : j < toC.size), j = i → (toC[j]'h).toNat = toN i := by
  intro j h e
  subst e
  obtain rfl | rfl | rfl | rfl | rfl | rfl | rfl | rfl : j = 0 ∨ j = 1 ∨ j = 2 ∨ j = 3 ∨ j = 4 ∨ j = 5 ∨ j = 6 ∨ j = 7 := by omega
  all_goals rfl
theorem esc_at {i : Nat} (hi : i < 8) {l : B} (h : (nx l).toNat = fromN i) : escape l = .ok (toN i) (l.drop 1) ∧ toN i < 128 ∧ l ≠ [] := by
  cases l with
  | nil =>
    obtain rfl | rfl | rfl | rfl | rfl | rfl | rfl | rfl : i = 0 ∨ i = 1 ∨ i = 2 ∨ i = 3 ∨ i = 4 ∨ i = 5 ∨ i = 6 ∨ i = 7 := by omega
    all_goals simp [nx, fromN] at h
  | cons c t =>
    have hc : c.toNat = fromN i := h
    obtain rfl | rfl | rfl | rfl | rfl | rfl | rfl | rfl : i = 0 ∨ i = 1 ∨ i = 2 ∨ i = 3 ∨ i = 4 ∨ i = 5 ∨ i = 6 ∨ i = 7 := by omega
    · obtain rfl : c = 34 := UInt8.toNat_inj.1 hc
      exact ⟨rfl, by decide, by simp⟩
    · obtain rfl : c = 92 := UInt8.toNat_inj.1 hc
      exact ⟨rfl, by decide, by simp⟩
    · obtain rfl : c = 47 := UInt8.toNat_inj.1 hc
      exact ⟨rfl, by decide, by simp⟩
    · obtain rfl : c = 98 := UInt8.toNat_inj.1 hc
      exact ⟨rfl, by decide, by simp⟩
    · obtain rfl : c = 102 := UInt8.toNat_inj.1 hc
      exact ⟨rfl, by decide, by simp⟩
    · obtain rfl : c = 110 := UInt8.toNat_inj.1 hc
      exact ⟨rfl, by decide, by simp⟩
    · obtain rfl : c = 114 := UInt8.toNat_inj.1 hc
      exact ⟨rfl, by decide, by simp⟩
    · obtain rfl : c = 116 := UInt8.toNat_inj.1 hc
      exact ⟨rfl, by decide, by simp⟩
theorem esc_not {l : B} (h : ∀ i, i < 8 → (nx l).toNat ≠ fromN i) (h2 : nx l ≠ 117) : escape l = .err 3 l := by
  cases l with
  | nil => rfl
  | cons c t =>
    have hc : ∀ i, i < 8 → c.toNat ≠ fromN i := h
    have h3 : c ≠ 117 := h2
    have q : ∀ (i : Nat) (d : UInt8), i < 8 → d.toNat = fromN i → c ≠ d := fun i d hi hd e => hc i hi (by rw [e, hd])
    have q0 := q 0 34 (by omega) rfl
    have q1 := q 1 92 (by omega) rfl
    have q2 := q 2 47 (by omega) rfl
    have q3 := q 3 98 (by omega) rfl
    have q4 := q 4 102 (by omega) rfl
    have q5 := q 5 110 (by omega) rfl
    have q6 := q 6 114 (by omega) rfl
    have q7 := q 7 116 (by omega) rfl
    simp [escape, q0, q1, q2, q3, q4, q5, q6, q7, h3]
theorem esc_u {t : B} : escape (117 :: t) = code t := rfl
theorem wpAnyD_two {P : Program} {ops : Array Oper} {Q : Exit → Act → World → Prop} {md : Region.Mode} {S : World → Prop} {D : Nat → Bool} {i j : Nat} {oi oj : Oper} {fuel : Nat} {listed : Array Bool} {a : Act} {w : World} (hr : Region.ready md ops listed = [i, j]) (hoi : ops[i]? = some oi) (hoj : ops[j]? = some oj)
    (h1 : ∀ K' : Act → World → Prop, (∀ a w, ((D i = false → S w) ∧ wpAnyD P md ops Q S D fuel (listed.setIfInBounds i true) a w) → K' a w) → if Region.wanted oi (yielded ops a.tmps) = true then Oper.wp P oi a w K' Q else K' (a.put oi.dst undef) w)
    (h2 : ∀ K' : Act → World → Prop, (∀ a w, ((D j = false → S w) ∧ wpAnyD P md ops Q S D fuel (listed.setIfInBounds j true) a w) → K' a w) → if Region.wanted oj (yielded ops a.tmps) = true then Oper.wp P oj a w K' Q else K' (a.put oj.dst undef) w) :
    wpAnyD P md ops Q S D (fuel + 1) listed a w := by
  refine ⟨fun h0 => (by rw [hr] at h0; cases h0), fun k hk => ?_⟩
  rw [hr] at hk
  simp only [List.mem_cons, List.not_mem_nil, or_false] at hk
  rcases hk with rfl | rfl
  · exact wpOp_step hoi h1
  · exact wpOp_step hoj h2
def ToldEs (s : ByteArray) (r : Res Nat) (w : World) (e : Ending) (w' : World) : Prop := match r with
  | .ok n u => ∃ P g : Nat, P ≤ s.size ∧ s.data.toList.drop P = u ∧ e = .returned (.tuple #[.agg #[.string s, .int .i64 (P : Int), .int .i64 0], .slice (some ⟨g, 0, none⟩) (Lib.runeCells (n : Int)).length (Lib.runeCells (n : Int)).length]) ∧ w'.heap[g]? = some (.cells (Lib.runeCells (n : Int)).toArray 5 (0, 0)) ∧ Below w.heap.size w w'
  | .err k u => ∃ P : Nat, P ≤ s.size ∧ s.data.toList.drop P = u ∧ e = .returned (.tuple #[.agg #[.string s, .int .i64 (P : Int), .int .i64 (k : Int)], .slice none 0 0]) ∧ Below w.heap.size w w'
theorem drop_one {s : ByteArray} {p : Nat} : (s.data.toList.drop p).drop 1 = s.data.toList.drop (p + 1) := by rw [List.drop_drop]
theorem heap_new3 {U : World} {g : Nat} {o : Obj} (hg : g < U.heap.size) (a0 a1 a2 : Value) : ((((U.alloc o).setCell ⟨g, 0, none⟩ a0).setCell ⟨g, 1, none⟩ a1).setCell ⟨g, 2, none⟩ a2).heap[U.heap.size]? = some o := by
  rw [three_other (by omega)]
  exact heap_alloc_new _ _
theorem heap_set3 {U : World} {g : Nat} {o : Obj} (a0 a1 a2 : Value) : ((((U.setCell ⟨g, 0, none⟩ a0).setCell ⟨g, 1, none⟩ a1).setCell ⟨g, 2, none⟩ a2).alloc o).heap[U.heap.size]? = some o := by
  have h := heap_alloc_new (((U.setCell ⟨g, 0, none⟩ a0).setCell ⟨g, 1, none⟩ a1).setCell ⟨g, 2, none⟩ a2) o
  have e : (((U.setCell ⟨g, 0, none⟩ a0).setCell ⟨g, 1, none⟩ a1).setCell ⟨g, 2, none⟩ a2).heap.size = U.heap.size := by simp only [size_set]
  rw [e] at h
  exact h
theorem set3_heap {U : World} {g : Nat} {T : TypeId} {fr : Nat × Nat} {o : Obj} (h : ∃ cs : Array Value, cs.size = 3 ∧ U.heap[g]? = some (.cells cs T fr)) (a0 a1 a2 : Value) : ((((U.setCell ⟨g, 0, none⟩ a0).setCell ⟨g, 1, none⟩ a1).setCell ⟨g, 2, none⟩ a2).alloc o).heap[g]? = some (.cells #[a0, a1, a2] T fr) := by
  have h1 := three_put h a0 a1 a2
  rw [(below_new _ o).block _ (lt_of_heap h1)]
  exact h1
theorem code_cases (l : B) : (∃ u, four 4 0 l = .err 3 u ∧ code l = .err 3 u) ∨ (∃ n u, four 4 0 l = .ok n u ∧ 56320 ≤ n ∧ n ≤ 57343 ∧ code l = .err 3 (l.drop 3))
    ∨ (∃ n u, four 4 0 l = .ok n u ∧ (n < 55296 ∨ 57343 < n) ∧ code l = .ok n u)
    ∨ (∃ n u, four 4 0 l = .ok n u ∧ 55296 ≤ n ∧ n < 56320 ∧ ((∃ v, word [92, 117] u = .err 3 v ∧ code l = .err 3 v) ∨ (∃ v, word [92, 117] u = .ok () v ∧ ((∃ t, fourR 56320 57343 4 0 v = .err 3 t ∧ code l = .err 3 t) ∨ (∃ m t, fourR 56320 57343 4 0 v = .ok m t ∧ 56320 ≤ m ∧ m ≤ 57343 ∧ code l = .ok (65536 + (n - 55296) * 1024 + (m - 56320)) t))))) := by
  unfold code
  cases hf : four 4 0 l with
  | err k u =>
    have hf2 := hf
    rw [← fourR_wide] at hf2
    obtain rfl := fourR_three _ _ _ _ _ hf2
    exact .inl ⟨u, rfl, rfl⟩
  | ok n u =>
    right
    simp only
    by_cases h1 : 56320 ≤ n ∧ n < 57344
    · rw [if_pos h1]
      exact .inl ⟨n, u, rfl, h1.1, by omega, rfl⟩
    · right
      rw [if_neg h1]
      by_cases h2 : 55296 ≤ n ∧ n < 56320
      · right
        rw [if_pos h2, ← low_same]
        refine ⟨n, u, rfl, h2.1, h2.2, ?_⟩
        unfold lowR
        cases hw : word [92, 117] u with
        | err k v =>
          obtain rfl := word_three _ _ _ _ hw
          exact .inl ⟨v, rfl, rfl⟩
        | ok y v =>
          right
          refine ⟨v, rfl, ?_⟩
          simp only
          cases hg : fourR 56320 57343 4 0 v with
          | err k t =>
            obtain rfl := fourR_three _ _ _ _ _ hg
            exact .inl ⟨t, rfl, rfl⟩
          | ok m t =>
            obtain ⟨g1, g2⟩ := fourR_in _ _ _ _ _ hg
            exact .inr ⟨m, t, rfl, g1, g2, rfl⟩
      · left
        rw [if_neg h2]
        exact ⟨n, u, rfl, by omega, rfl⟩
set_option maxRecDepth 20000 in
set_option maxHeartbeats 8000000 in
theorem rescape_any (s : ByteArray) (p : Nat) (y : Int) (hy : y = (p : Int)) (hp : p ≤ s.size) (hs : s.size ≤ 140737488355328) (w : World) : Calls Tryz.prog 57 #[.agg #[.string s, .int .i64 y, .int .i64 0]] w fun e w' => ToldEs s (escape (s.data.toList.drop p)) w e w' := by
  subst hy
  obtain ⟨T, hT⟩ : ∃ T, escape (s.data.toList.drop p) = T := ⟨_, rfl⟩
  rw [hT]
  have HT := hid hT
  obtain ⟨c, hc⟩ : ∃ c : Nat, (nx (s.data.toList.drop p)).toNat = c := ⟨_, rfl⟩
  have HC := hid hc
  have HZ := hid hp
  obtain ⟨W0, hW0⟩ : ∃ W0, W0 = (w.alloc (.cells #[.string s, .int .i64 (p : Int), .int .i64 0] 49 (0, 0))).alloc (.cells #[.string ⟨#[]⟩, .int .i64 0, .int .i64 0] 49 (0, 0)) := ⟨_, rfl⟩
  have HW0 := hid hW0
  have HR0 := hid (RW2.start hW0)
  clear hW0 hT hc
  go_enter Tryz.func57, Tryz.ntmps57
  go_wp2
  go_loopg [4] 9 (fun gk s4 wr => ∃ i : Nat, i ≤ 8 ∧ gk = 8 - i + 1 ∧ s4 = .int .i64 (i : Int) ∧ (∀ j, j < i → c ≠ fromN j) ∧ RW2 w wr s (p : Int) 0)
  case atStart => exact ⟨0, by omega, rfl, rfl, fun j h => by omega, by rw [← HW0.out]; exact HR0.out⟩
  case round =>
    obtain ⟨i, hi, rfl, rfl, hne, hR⟩ := hrel
    have HNe := hid hne
    have HR := hid hR
    obtain ⟨x0, x1, x2, xz⟩ := three hR.r
    have xz0 := xz 0
    have xz1 := xz 1
    have xz2 := xz 2
    clear hne hR xz
    by_cases hin : i < 8
    · have b1 : (i : Int) < 8 := by omega
      have HFr := hid (fromC_at i hin)
      obtain ⟨F, hF⟩ : ∃ F, fromN i = F := ⟨_, rfl⟩
      rw [hF] at HFr
      by_cases hcF : c = F
      · have HE := hid (esc_at hin (by rw [HC.out, hcF, hF]))
        have HTo := hid (toC_at i hin)
        obtain ⟨G, hG⟩ : ∃ G, toN i = G := ⟨_, rfl⟩
        rw [hG] at HE HTo
        have HN := hid (show T = .ok G (s.data.toList.drop (p + 1)) from by rw [← HT.out, HE.out.1, drop_one])
        have hplt : p < s.size := by
          rcases Nat.lt_or_ge p s.size with h | h
          · exact h
          · exact absurd (List.drop_of_length_le (show s.data.toList.length ≤ p from h)) HE.out.2.2
        have HG := hid (show Lib.runeCells (G : Int) = [.int .u8 (G : Int)] from by unfold Lib.runeCells; rw [Lib.encodeRuneZ_one (by omega) (by have := HE.out.2.1; omega)]; rfl)
        subst hcF
        clear hF hG
        go_wp2
        refine wp_region_noPanic ?_
        refine any_begin 5 (by kernel_rfl) (by kernel_rfl) ?_
        refine late_begin (fun U => U.heap[w.heap.size]? = some (.cells #[.string s, .int .i64 (p : Int), .int .i64 0] 49 (0, 0))) (fun _ => false) (HR.out.below (below_drew (Below.refl _ _) 1)).r (fun hS => ?_)
        have HBV := hid (show Below (wr).heap.size (wr) (wr).drew from below_drew (Below.refl _ _) 1)
        generalize (wr).drew = V at hS HBV ⊢
        refine late_take (i := 0) (some 11) rfl rfl (by kernel_rfl) (by kernel_rfl) (by kernel_rfl) (by kernel_rfl) (by kernel_rfl) (fun _ _ _ h => h) (by rfl) (v := ?v0a) ?hy0a hS ?rest0a
        case hy0a => intro w0 hSw; obtain ⟨k0, k1, k2, _⟩ := three hSw; go_simp; try with_reducible rfl
        simp only [Act.put, List.setIfInBounds_toArray, List.set_cons_zero, List.set_cons_succ]
        refine late_take (i := 2) (some 13) rfl rfl (by kernel_rfl) (by kernel_rfl) (by kernel_rfl) (by kernel_rfl) (by kernel_rfl) (fun _ _ _ h => h) (by rfl) (v := ?v2a) ?hy2a hS ?rest2a
        case hy2a => intro w0 hSw; obtain ⟨k0, k1, k2, _⟩ := three hSw; go_simp; try with_reducible rfl
        simp only [Act.put, List.setIfInBounds_toArray, List.set_cons_zero, List.set_cons_succ]
        refine late_take (i := 3) (some 14) rfl rfl (by kernel_rfl) (by kernel_rfl) (by kernel_rfl) (by kernel_rfl) (by kernel_rfl) (fun _ _ _ h => h) (by rfl) (v := .int .u8 (c : Int)) ?hy3a hS ?rest3a
        case hy3a => intro w0 hSw; go_simp; first | (exact congrArg (fun q : Nat => (q : Int)) (HFr.out _ _ rfl)) | (rw [dif_pos ⟨by omega, by omega⟩]; simp only [Result.andThen]; congr 4; exact HFr.out _ _ (by omega))
        simp only [Act.put, List.setIfInBounds_toArray, List.set_cons_zero, List.set_cons_succ]
        refine wpAnyD_one (i := 1) (by kernel_rfl) rfl (fun K hK => ?_)
        go_simp
        go_at_call 33
        refine (rnext_any s p 0 HZ.out V).mono ?_
        rintro e w1 ⟨rfl, hb⟩
        rw [HC.out]
        have HR1 := hid (HR.out.below (HBV.out.trans (hb.mono HBV.out.size)))
        clear hb
        have hS2 := HR1.out.r
        refine hK _ _ ⟨fun _ => hS2, ?_⟩
        clear hK K
        replace hS := hS2
        clear hS2
        obtain ⟨z0, z1, z2, zz⟩ := three hS
        have zz1 := zz 1
        clear zz
        refine late_take (i := 4) (some 15) rfl rfl (by kernel_rfl) (by kernel_rfl) (by kernel_rfl) (by kernel_rfl) (by kernel_rfl) (fun _ _ _ h => h) (by rfl) (v := ?v4a) ?hy4a hS ?rest4a
        case hy4a => intro w0 hSw; obtain ⟨k0, k1, k2, _⟩ := three hSw; go_simp; try with_reducible rfl
        simp only [Act.put, List.setIfInBounds_toArray, List.set_cons_zero, List.set_cons_succ]
        refine late_done (by kernel_rfl) ?_ _
        refine NoPanic.normal ?_
        clear hS
        have HR2 := hid (HR1.out.move ((p : Int) + 1) _ rfl)
        go_wp2
        refine wp_region_noPanic ?_
        refine any_begin 6 (by kernel_rfl) (by kernel_rfl) ?_
        refine late_begin (fun U => U.heap[w.heap.size]? = some (.cells #[.string s, .int .i64 ((p : Int) + 1), .int .i64 0] 49 (0, 0))) (fun _ => false) (HR2.out.below (below_drew (Below.refl _ _) 1)).r (fun hS => ?_)
        have HBV := hid (show Below (w1.setCell ⟨w.heap.size, 1, none⟩ (.int .i64 ((p : Int) + 1))).heap.size (w1.setCell ⟨w.heap.size, 1, none⟩ (.int .i64 ((p : Int) + 1))) (w1.setCell ⟨w.heap.size, 1, none⟩ (.int .i64 ((p : Int) + 1))).drew from below_drew (Below.refl _ _) 1)
        generalize (w1.setCell ⟨w.heap.size, 1, none⟩ (.int .i64 ((p : Int) + 1))).drew = V at hS HBV ⊢
        refine late_take (i := 0) (some 20) rfl rfl (by kernel_rfl) (by kernel_rfl) (by kernel_rfl) (by kernel_rfl) (by kernel_rfl) (fun _ _ _ h => h) (by rfl) (v := ?v0b) ?hy0b hS ?rest0b
        case hy0b => intro w0 hSw; obtain ⟨k0, k1, k2, _⟩ := three hSw; go_simp; try with_reducible rfl
        simp only [Act.put, List.setIfInBounds_toArray, List.set_cons_zero, List.set_cons_succ]
        refine late_take (i := 1) (some 21) rfl rfl (by kernel_rfl) (by kernel_rfl) (by kernel_rfl) (by kernel_rfl) (by kernel_rfl) (fun _ _ _ h => h) (by rfl) (v := ?v1b) ?hy1b hS ?rest1b
        case hy1b => intro w0 hSw; obtain ⟨k0, k1, k2, _⟩ := three hSw; go_simp; try with_reducible rfl
        simp only [Act.put, List.setIfInBounds_toArray, List.set_cons_zero, List.set_cons_succ]
        refine late_take (i := 2) (some 22) rfl rfl (by kernel_rfl) (by kernel_rfl) (by kernel_rfl) (by kernel_rfl) (by kernel_rfl) (fun _ _ _ h => h) (by rfl) (v := .int .u8 (G : Int)) ?hy2b hS ?rest2b
        case hy2b => intro w0 hSw; go_simp; first | (exact congrArg (fun q : Nat => (q : Int)) (HTo.out _ _ rfl)) | (rw [dif_pos ⟨by omega, by omega⟩]; simp only [Result.andThen]; congr 4; exact HTo.out _ _ (by omega))
        simp only [Act.put, List.setIfInBounds_toArray, List.set_cons_zero, List.set_cons_succ]
        have HR3 := hid (HR2.out.below HBV.out)
        refine wpAnyD_two (i := 3) (j := 4) (by kernel_rfl) rfl rfl (fun K hK => ?_) (fun K hK => ?_)
        · go_simp
          refine hK _ _ ⟨fun _ => (HR3.out.below (below_new V (.cells #[.int .u8 (G : Int)] 5 (0, 0)))).r, ?_⟩
          clear hK K
          have HR4 := hid (HR3.out.below (below_new V (.cells #[.int .u8 (G : Int)] 5 (0, 0))))
          obtain ⟨y0, y1, y2, yz⟩ := three HR4.out.o; have yz0 := yz 0; have yz1 := yz 1; have yz2 := yz 2; clear yz
          refine wpAnyD_one (i := 4) (by kernel_rfl) rfl (fun K hK => ?_)
          go_simp
          refine hK _ _ ⟨fun _ => (three_other (show w.heap.size ≠ w.heap.size + 1 by omega) _ _ _).trans HR4.out.r, ?_⟩
          clear hK K
          refine wpAnyD_one (i := 5) (by kernel_rfl) rfl (fun K hK => ?_)
          go_simp
          refine hK _ _ ⟨fun _ => (three_other (show w.heap.size ≠ w.heap.size + 1 by omega) _ _ _).trans HR4.out.r, ?_⟩
          clear hK K
          refine late_done (by kernel_rfl) ?_ _
          refine NoPanic.normal ?_
          clear hS
          go_wp2
          (try simp only [Exit.inBlock, Exit.then])
          refine bodyPost_ret (results_rdtmp rfl _ _ _ 49 _ (0, 0) rfl (three_put (has_three HR4.out.o) _ _ _) rfl) rfl ?_
          rw [HN.out]
          refine ⟨p + 1, V.heap.size, by omega, rfl, by rw [HG.out]; push_cast; rfl, ?_, HR4.out.out _ _ _⟩
          rw [HG.out]
          exact heap_new3 (lt_of_heap HR3.out.o) _ _ _
        · obtain ⟨y0, y1, y2, yz⟩ := three HR3.out.o; have yz0 := yz 0; have yz1 := yz 1; have yz2 := yz 2; clear yz
          go_simp
          have HS1 := hid ((three_other (show w.heap.size ≠ w.heap.size + 1 by omega) (.string s) (.int .i64 ((p : Int) + 1)) (.int .i64 0)).trans HR3.out.r)
          refine hK _ _ ⟨fun _ => HS1.out, ?_⟩
          clear hK K
          refine wpAnyD_one (i := 3) (by kernel_rfl) rfl (fun K hK => ?_)
          go_simp
          have HS2 := hid (((below_new _ (.cells #[.int .u8 (G : Int)] 5 (0, 0))).block _ (lt_of_heap HS1.out)).trans HS1.out)
          refine hK _ _ ⟨fun _ => HS2.out, ?_⟩
          clear hK K
          refine wpAnyD_one (i := 5) (by kernel_rfl) rfl (fun K hK => ?_)
          go_simp
          refine hK _ _ ⟨fun _ => HS2.out, ?_⟩
          clear hK K
          refine late_done (by kernel_rfl) ?_ _
          refine NoPanic.normal ?_
          clear hS
          go_wp2
          (try simp only [Exit.inBlock, Exit.then])
          refine bodyPost_ret (results_rdtmp rfl _ _ _ 49 _ (0, 0) rfl (set3_heap (has_three HR3.out.o) _ _ _) rfl) rfl ?_
          rw [HN.out]
          refine ⟨p + 1, V.heap.size, by omega, rfl, by rw [HG.out]; push_cast; first | rfl | simp only [size_set], ?_, (HR3.out.out _ _ _).trans ((below_new _ _).mono (HR3.out.out _ _ _).size)⟩
          rw [HG.out]
          exact heap_set3 _ _ _
      · have HNe2 := hid (show ∀ j, j < i + 1 → c ≠ fromN j from fun j hj => by
          rcases Nat.lt_or_ge j i with h | h
          · exact HNe.out j h
          · obtain rfl : j = i := by omega
            rw [hF]
            exact hcF)
        have q1 : ((c : Int) == (F : Int)) = false := by simp only [beq_eq_false_iff_ne, ne_eq]; omega
        clear hF hcF
        go_wp2
        refine wp_region_noPanic ?_
        refine any_begin 5 (by kernel_rfl) (by kernel_rfl) ?_
        refine late_begin (fun U => U.heap[w.heap.size]? = some (.cells #[.string s, .int .i64 (p : Int), .int .i64 0] 49 (0, 0))) (fun _ => false) (HR.out.below (below_drew (Below.refl _ _) 1)).r (fun hS => ?_)
        have HBV := hid (show Below (wr).heap.size (wr) (wr).drew from below_drew (Below.refl _ _) 1)
        generalize (wr).drew = V at hS HBV ⊢
        refine late_take (i := 0) (some 11) rfl rfl (by kernel_rfl) (by kernel_rfl) (by kernel_rfl) (by kernel_rfl) (by kernel_rfl) (fun _ _ _ h => h) (by rfl) (v := ?v0c) ?hy0c hS ?rest0c
        case hy0c => intro w0 hSw; obtain ⟨k0, k1, k2, _⟩ := three hSw; go_simp; try with_reducible rfl
        simp only [Act.put, List.setIfInBounds_toArray, List.set_cons_zero, List.set_cons_succ]
        refine late_take (i := 2) (some 13) rfl rfl (by kernel_rfl) (by kernel_rfl) (by kernel_rfl) (by kernel_rfl) (by kernel_rfl) (fun _ _ _ h => h) (by rfl) (v := ?v2c) ?hy2c hS ?rest2c
        case hy2c => intro w0 hSw; obtain ⟨k0, k1, k2, _⟩ := three hSw; go_simp; try with_reducible rfl
        simp only [Act.put, List.setIfInBounds_toArray, List.set_cons_zero, List.set_cons_succ]
        refine late_take (i := 3) (some 14) rfl rfl (by kernel_rfl) (by kernel_rfl) (by kernel_rfl) (by kernel_rfl) (by kernel_rfl) (fun _ _ _ h => h) (by rfl) (v := .int .u8 (F : Int)) ?hy3c hS ?rest3c
        case hy3c => intro w0 hSw; go_simp; first | (exact congrArg (fun q : Nat => (q : Int)) (HFr.out _ _ rfl)) | (rw [dif_pos ⟨by omega, by omega⟩]; simp only [Result.andThen]; congr 4; exact HFr.out _ _ (by omega))
        simp only [Act.put, List.setIfInBounds_toArray, List.set_cons_zero, List.set_cons_succ]
        refine wpAnyD_one (i := 1) (by kernel_rfl) rfl (fun K hK => ?_)
        go_simp
        go_at_call 33
        refine (rnext_any s p 0 HZ.out V).mono ?_
        rintro e w1 ⟨rfl, hb⟩
        rw [HC.out]
        have HR1 := hid (HR.out.below (HBV.out.trans (hb.mono HBV.out.size)))
        clear hb
        have hS2 := HR1.out.r
        refine hK _ _ ⟨fun _ => hS2, ?_⟩
        clear hK K
        replace hS := hS2
        clear hS2
        obtain ⟨z0, z1, z2, zz⟩ := three hS
        have zz1 := zz 1
        clear zz
        refine late_take (i := 4) (some 15) rfl rfl (by kernel_rfl) (by kernel_rfl) (by kernel_rfl) (by kernel_rfl) (by kernel_rfl) (fun _ _ _ h => h) (by rfl) (v := ?v4c) ?hy4c hS ?rest4c
        case hy4c => intro w0 hSw; obtain ⟨k0, k1, k2, _⟩ := three hSw; go_simp; try with_reducible rfl
        simp only [Act.put, List.setIfInBounds_toArray, List.set_cons_zero, List.set_cons_succ]
        refine late_done (by kernel_rfl) ?_ _
        refine NoPanic.normal ?_
        clear hS
        go_wp2
        go_roundg (8 - (i + 1) + 1)
        case measure => omega
        case rel => exact ⟨i + 1, by omega, rfl, by push_cast; rfl, HNe2.out, HR1.out⟩
    · obtain rfl : i = 8 := by omega
      by_cases h117 : c = 117
      case neg =>
        have HN := hid (show T = .err 3 (s.data.toList.drop p) from by
          rw [← HT.out]
          exact esc_not (fun j hj => by rw [HC.out]; exact HNe.out j hj) (fun e => h117 (by rw [← HC.out, e]; rfl)))
        have q1 : ((c : Int) != 117) = true := by simp only [bne_iff_ne, ne_eq]; omega
        clear h117 hin
        go_wp2_with (first
          | (go_at_call 33; (with_reducible refine (rnext_any s p 0 HZ.out _).mono ?_); rintro e w1 ⟨rfl, hb⟩; rw [HC.out]; have HR1 := hid (HR.out.below hb); clear hb HC; obtain ⟨z0, z1, z2, zz⟩ := three HR1.out.r; have zz0 := zz 0; have zz1 := zz 1; have zz2 := zz 2; clear zz)
          | (go_at_call 20; (with_reducible refine (rfail_any s (p : Int) (p : Int) 3 _).mono ?_); rintro e wf ⟨rfl, hb⟩; have HRf := hid (HR1.out.below hb); clear hb; obtain ⟨y0, y1, y2, yz⟩ := three HRf.out.o; have yz0 := yz 0; have yz1 := yz 1; have yz2 := yz 2; clear yz))
        (try simp only [Exit.inBlock, Exit.then])
        refine bodyPost_ret (results_rdtmp rfl _ _ _ 49 _ (0, 0) rfl (three_put (has_three HRf.out.o) _ _ _) rfl) rfl ?_
        rw [HN.out]
        exact ⟨p, HZ.out, rfl, rfl, HRf.out.out _ _ _⟩
      subst h117
      obtain ⟨hplt, hd⟩ := drop_nx (s := s) (P := p) (fun e => by have := HC.out; rw [e] at this; simp at this)
      have HTc := hid (show T = code (s.data.toList.drop (p + 1)) from by
        rw [← HT.out, hd, show nx (s.data.toList.drop p) = 117 from UInt8.toNat_inj.1 HC.out]
        exact esc_u)
      have HP1 := hid (show p + 1 ≤ s.size from hplt)
      have HS := hid hs
      clear hd hin
      rcases code_cases (s.data.toList.drop (p + 1)) with ⟨u, f4, hcd⟩ | ⟨n, u, f4, n1, n2, hcd⟩ | ⟨n, u, f4, n1, hcd⟩ | ⟨n, u, f4, n1, n2, hrest⟩
      · have HF4 := hid f4
        have HN := hid (show T = .err 3 u from by rw [HTc.out]; exact hcd)
        clear f4 hcd
        go_wp2_with (first
          | (go_at_call 33; (with_reducible refine (rnext_any s p 0 HZ.out _).mono ?_); rintro e w1 ⟨rfl, hb⟩; rw [HC.out]; have HR1 := hid (HR.out.below hb); clear hb HC; obtain ⟨z0, z1, z2, zz⟩ := three HR1.out.r; have zz0 := zz 0; have zz1 := zz 1; have zz2 := zz 2; clear zz)
          | (go_at_call 78; have HRm := hid (HR1.out.move ((p : Int) + 1) _ rfl); have hcall : Calls Tryz.prog 78 #[.agg #[.string s, .int .i64 ((p : Int) + 1), .int .i64 0], .int .i64 0, .int .i64 65535] (w1.setCell ⟨w.heap.size, 1, none⟩ (.int .i64 ((p : Int) + 1))) _ := rfour_any s (p + 1) ((p : Int) + 1) (by push_cast; rfl) 0 65535 HP1.out HS.out _; rw [fourR_wide, HF4.out] at hcall; (with_reducible refine hcall.mono ?_); clear hcall; rintro e w2 ⟨P2, hP2, hd2, rfl, hb⟩; have HD2 := hid hd2; have HR2 := hid (HRm.out.below hb); have HR3 := hid (HR2.out.put s (P2 : Int) 3); clear hb hd2 HP1; obtain ⟨a0, a1, a2, az⟩ := three HR2.out.r; have az0 := az 0; have az1 := az 1; have az2 := az 2; clear az; obtain ⟨b0, b1, b2, bz⟩ := three HR3.out.r; have bz0 := bz 0; have bz1 := bz 1; have bz2 := bz 2; clear bz; obtain ⟨y0, y1, y2, yz⟩ := three HR3.out.o; have yz0 := yz 0; have yz1 := yz 1; have yz2 := yz 2; clear yz))
        (try simp only [Exit.inBlock, Exit.then])
        refine bodyPost_ret (results_rdtmp rfl _ _ _ 49 _ (0, 0) rfl (three_put (has_three HR3.out.o) _ _ _) rfl) rfl ?_
        rw [HN.out]
        exact ⟨P2, hP2, HD2.out, rfl, HR3.out.out _ _ _⟩
      · have HF4 := hid f4
        have HN := hid (show T = .err 3 ((s.data.toList.drop (p + 1)).drop 3) from by rw [HTc.out]; exact hcd)
        obtain ⟨hu, hl4, _⟩ := four_ok _ _ _ _ _ f4
        have HU := hid hu
        have hl5 : p + 5 ≤ s.size := by
          rw [List.length_drop] at hl4
          have : s.data.toList.length = s.size := rfl
          omega
        have HPe := hid (show ∀ P2, P2 ≤ s.size → s.data.toList.drop P2 = u → P2 = p + 5 from fun P2 h1 h2 => place_eq h1 hl5 (by rw [h2, hu, List.drop_drop]))
        obtain ⟨N, hNI⟩ : ∃ N : Int, (n : Int) = N := ⟨_, rfl⟩
        have HNI := hid hNI
        have c1 : (56320 : Int) ≤ N := by omega
        have c2 : N ≤ 57343 := by omega
        clear f4 hcd hu hl4 n1 n2 hNI
        go_wp2_with (first
          | (go_at_call 33; (with_reducible refine (rnext_any s p 0 HZ.out _).mono ?_); rintro e w1 ⟨rfl, hb⟩; rw [HC.out]; have HR1 := hid (HR.out.below hb); clear hb HC; obtain ⟨z0, z1, z2, zz⟩ := three HR1.out.r; have zz0 := zz 0; have zz1 := zz 1; have zz2 := zz 2; clear zz)
          | (go_at_call 78; have HRm := hid (HR1.out.move ((p : Int) + 1) _ rfl); have hcall : Calls Tryz.prog 78 #[.agg #[.string s, .int .i64 ((p : Int) + 1), .int .i64 0], .int .i64 0, .int .i64 65535] (w1.setCell ⟨w.heap.size, 1, none⟩ (.int .i64 ((p : Int) + 1))) _ := rfour_any s (p + 1) ((p : Int) + 1) (by push_cast; rfl) 0 65535 HP1.out HS.out _; rw [fourR_wide, HF4.out] at hcall; (with_reducible refine hcall.mono ?_); clear hcall; rintro e w2 ⟨P2, hP2, hd2, rfl, hb⟩; rw [HNI.out]; have hP5 := HPe.out P2 hP2 hd2; have hP6 : (P2 : Int) = (p : Int) + 5 := (by omega); have HP6 := hid hP6; clear hP5 hP6; have HD2 := hid hd2; have HR2 := hid (HRm.out.below hb); have HR3 := hid (HR2.out.put s (P2 : Int) 0); clear hb hd2 HP1; obtain ⟨a0, a1, a2, az⟩ := three HR2.out.r; have az0 := az 0; have az1 := az 1; have az2 := az 2; clear az; obtain ⟨b0, b1, b2, bz⟩ := three HR3.out.r; have bz0 := bz 0; have bz1 := bz 1; have bz2 := bz 2; clear bz; obtain ⟨y0, y1, y2, yz⟩ := three HR3.out.o; have yz0 := yz 0; have yz1 := yz 1; have yz2 := yz 2; clear yz)
          | (go_at_call 20; (with_reducible refine (rfail_any s (P2 : Int) ((P2 : Int) - 1) 3 _).mono ?_); rintro e wf ⟨rfl, hb⟩; have HRf := hid (HR3.out.below hb); clear hb; obtain ⟨y0, y1, y2, yz⟩ := three HRf.out.o; have yz0 := yz 0; have yz1 := yz 1; have yz2 := yz 2; clear yz))
        (try simp only [Exit.inBlock, Exit.then])
        refine bodyPost_ret (results_rdtmp rfl _ _ _ 49 _ (0, 0) rfl (three_put (has_three HRf.out.o) _ _ _) rfl) rfl ?_
        rw [HN.out]
        exact ⟨p + 4, by omega, by rw [List.drop_drop], by rw [show (P2 : Int) - 1 = ((p + 4 : Nat) : Int) from by have := HP6.out; omega]; rfl, HRf.out.out _ _ _⟩
      · have HF4 := hid f4
        have HN := hid (show T = .ok n u from by rw [HTc.out]; exact hcd)
        obtain ⟨_, _, hn4⟩ := four_ok _ _ _ _ _ f4
        have hn5 : n < 65536 := by simpa using hn4
        obtain ⟨N, hNI⟩ : ∃ N : Int, (n : Int) = N := ⟨_, rfl⟩
        have HNI := hid hNI
        have HU8 := hid (fun W => utf8b_any n N hNI.symm (by omega) (by omega) W)
        by_cases c1 : n < 55296
        · have d0 : ¬ (56320 : Int) ≤ N := by omega
          have d1 : N < 55296 := by omega
          clear f4 hcd hn4 n1 c1 hn5 hNI
          go_wp2_with (first
            | (go_at_call 33; (with_reducible refine (rnext_any s p 0 HZ.out _).mono ?_); rintro e w1 ⟨rfl, hb⟩; rw [HC.out]; have HR1 := hid (HR.out.below hb); clear hb HC; obtain ⟨z0, z1, z2, zz⟩ := three HR1.out.r; have zz0 := zz 0; have zz1 := zz 1; have zz2 := zz 2; clear zz)
            | (go_at_call 78; have HRm := hid (HR1.out.move ((p : Int) + 1) _ rfl); have hcall : Calls Tryz.prog 78 #[.agg #[.string s, .int .i64 ((p : Int) + 1), .int .i64 0], .int .i64 0, .int .i64 65535] (w1.setCell ⟨w.heap.size, 1, none⟩ (.int .i64 ((p : Int) + 1))) _ := rfour_any s (p + 1) ((p : Int) + 1) (by push_cast; rfl) 0 65535 HP1.out HS.out _; rw [fourR_wide, HF4.out] at hcall; (with_reducible refine hcall.mono ?_); clear hcall; rintro e w2 ⟨P2, hP2, hd2, rfl, hb⟩; rw [HNI.out]; have HD2 := hid hd2; have HR2 := hid (HRm.out.below hb); have HR3 := hid (HR2.out.put s (P2 : Int) 0); clear hb hd2 HP1; obtain ⟨a0, a1, a2, az⟩ := three HR2.out.r; have az0 := az 0; have az1 := az 1; have az2 := az 2; clear az; obtain ⟨b0, b1, b2, bz⟩ := three HR3.out.r; have bz0 := bz 0; have bz1 := bz 1; have bz2 := bz 2; clear bz; obtain ⟨y0, y1, y2, yz⟩ := three HR3.out.o; have yz0 := yz 0; have yz1 := yz 1; have yz2 := yz 2; clear yz))
          refine wp_region_noPanic ?_
          refine any_begin 5 (by kernel_rfl) (by kernel_rfl) ?_
          refine late_begin (fun U => U.heap[w.heap.size]? = some (.cells #[.string s, .int .i64 (P2 : Int), .int .i64 0] 49 (0, 0))) (fun _ => false) (HR3.out.below (below_drew (Below.refl _ _) 1)).r (fun hS => ?_)
          have HBV := hid (show Below (((w2.setCell ⟨w.heap.size, 0, none⟩ (.string s)).setCell ⟨w.heap.size, 1, none⟩ (.int .i64 (P2 : Int))).setCell ⟨w.heap.size, 2, none⟩ (.int .i64 0)).heap.size (((w2.setCell ⟨w.heap.size, 0, none⟩ (.string s)).setCell ⟨w.heap.size, 1, none⟩ (.int .i64 (P2 : Int))).setCell ⟨w.heap.size, 2, none⟩ (.int .i64 0)) (((w2.setCell ⟨w.heap.size, 0, none⟩ (.string s)).setCell ⟨w.heap.size, 1, none⟩ (.int .i64 (P2 : Int))).setCell ⟨w.heap.size, 2, none⟩ (.int .i64 0)).drew from below_drew (Below.refl _ _) 1)
          generalize (((w2.setCell ⟨w.heap.size, 0, none⟩ (.string s)).setCell ⟨w.heap.size, 1, none⟩ (.int .i64 (P2 : Int))).setCell ⟨w.heap.size, 2, none⟩ (.int .i64 0)).drew = V at hS HBV ⊢
          refine late_take (i := 0) (some 64) rfl rfl (by kernel_rfl) (by kernel_rfl) (by kernel_rfl) (by kernel_rfl) (by kernel_rfl) (fun _ _ _ h => h) (by rfl) (v := ?v0d) ?hy0d hS ?rest0d
          case hy0d => intro w0 hSw; obtain ⟨k0, k1, k2, _⟩ := three hSw; go_simp; try with_reducible rfl
          simp only [Act.put, List.setIfInBounds_toArray, List.set_cons_zero, List.set_cons_succ]
          refine late_take (i := 1) (some 65) rfl rfl (by kernel_rfl) (by kernel_rfl) (by kernel_rfl) (by kernel_rfl) (by kernel_rfl) (fun _ _ _ h => h) (by rfl) (v := ?v1d) ?hy1d hS ?rest1d
          case hy1d => intro w0 hSw; obtain ⟨k0, k1, k2, _⟩ := three hSw; go_simp; try with_reducible rfl
          simp only [Act.put, List.setIfInBounds_toArray, List.set_cons_zero, List.set_cons_succ]
          have HR4 := hid (HR3.out.below HBV.out)
          refine wpAnyD_one (i := 2) (by kernel_rfl) rfl (fun K hK => ?_)
          go_simp
          go_at_call 79
          refine (HU8.out V).mono ?_
          rintro e w5 ⟨rfl, rfl⟩
          have HR5 := hid (HR4.out.below (below_new V (.cells (Lib.runeCells (n : Int)).toArray 5 (0, 0))))
          refine hK _ _ ⟨fun _ => HR5.out.r, ?_⟩
          clear hK K
          obtain ⟨y0, y1, y2, yz⟩ := three HR5.out.o; have yz0 := yz 0; have yz1 := yz 1; have yz2 := yz 2; clear yz
          refine wpAnyD_one (i := 3) (by kernel_rfl) rfl (fun K hK => ?_)
          go_simp
          refine hK _ _ ⟨fun _ => (three_other (show w.heap.size ≠ w.heap.size + 1 by omega) _ _ _).trans HR5.out.r, ?_⟩
          clear hK K
          refine wpAnyD_one (i := 4) (by kernel_rfl) rfl (fun K hK => ?_)
          go_simp
          refine hK _ _ ⟨fun _ => (three_other (show w.heap.size ≠ w.heap.size + 1 by omega) _ _ _).trans HR5.out.r, ?_⟩
          clear hK K
          refine late_done (by kernel_rfl) ?_ _
          refine NoPanic.normal ?_
          clear hS
          go_wp2
          (try simp only [Exit.inBlock, Exit.then])
          refine bodyPost_ret (results_rdtmp rfl _ _ _ 49 _ (0, 0) rfl (three_put (has_three HR5.out.o) _ _ _) rfl) rfl ?_
          rw [HN.out]
          exact ⟨P2, V.heap.size, hP2, HD2.out, rfl, heap_new3 (lt_of_heap HR4.out.o) _ _ _, HR5.out.out _ _ _⟩
        · have c2 : 57343 < n := by omega
          have d0 : (56320 : Int) ≤ N := by omega
          have d1 : ¬ N ≤ 57343 := by omega
          have d2 : ¬ N < 55296 := by omega
          have d3 : (57343 : Int) < N := by omega
          clear f4 hcd hn4 n1 c1 c2 hn5 hNI
          go_wp2_with (first
            | (go_at_call 33; (with_reducible refine (rnext_any s p 0 HZ.out _).mono ?_); rintro e w1 ⟨rfl, hb⟩; rw [HC.out]; have HR1 := hid (HR.out.below hb); clear hb HC; obtain ⟨z0, z1, z2, zz⟩ := three HR1.out.r; have zz0 := zz 0; have zz1 := zz 1; have zz2 := zz 2; clear zz)
            | (go_at_call 78; have HRm := hid (HR1.out.move ((p : Int) + 1) _ rfl); have hcall : Calls Tryz.prog 78 #[.agg #[.string s, .int .i64 ((p : Int) + 1), .int .i64 0], .int .i64 0, .int .i64 65535] (w1.setCell ⟨w.heap.size, 1, none⟩ (.int .i64 ((p : Int) + 1))) _ := rfour_any s (p + 1) ((p : Int) + 1) (by push_cast; rfl) 0 65535 HP1.out HS.out _; rw [fourR_wide, HF4.out] at hcall; (with_reducible refine hcall.mono ?_); clear hcall; rintro e w2 ⟨P2, hP2, hd2, rfl, hb⟩; rw [HNI.out]; have HD2 := hid hd2; have HR2 := hid (HRm.out.below hb); have HR3 := hid (HR2.out.put s (P2 : Int) 0); clear hb hd2 HP1; obtain ⟨a0, a1, a2, az⟩ := three HR2.out.r; have az0 := az 0; have az1 := az 1; have az2 := az 2; clear az; obtain ⟨b0, b1, b2, bz⟩ := three HR3.out.r; have bz0 := bz 0; have bz1 := bz 1; have bz2 := bz 2; clear bz; obtain ⟨y0, y1, y2, yz⟩ := three HR3.out.o; have yz0 := yz 0; have yz1 := yz 1; have yz2 := yz 2; clear yz))
          refine wp_region_noPanic ?_
          refine any_begin 5 (by kernel_rfl) (by kernel_rfl) ?_
          refine late_begin (fun U => U.heap[w.heap.size]? = some (.cells #[.string s, .int .i64 (P2 : Int), .int .i64 0] 49 (0, 0))) (fun _ => false) (HR3.out.below (below_drew (Below.refl _ _) 1)).r (fun hS => ?_)
          have HBV := hid (show Below (((w2.setCell ⟨w.heap.size, 0, none⟩ (.string s)).setCell ⟨w.heap.size, 1, none⟩ (.int .i64 (P2 : Int))).setCell ⟨w.heap.size, 2, none⟩ (.int .i64 0)).heap.size (((w2.setCell ⟨w.heap.size, 0, none⟩ (.string s)).setCell ⟨w.heap.size, 1, none⟩ (.int .i64 (P2 : Int))).setCell ⟨w.heap.size, 2, none⟩ (.int .i64 0)) (((w2.setCell ⟨w.heap.size, 0, none⟩ (.string s)).setCell ⟨w.heap.size, 1, none⟩ (.int .i64 (P2 : Int))).setCell ⟨w.heap.size, 2, none⟩ (.int .i64 0)).drew from below_drew (Below.refl _ _) 1)
          generalize (((w2.setCell ⟨w.heap.size, 0, none⟩ (.string s)).setCell ⟨w.heap.size, 1, none⟩ (.int .i64 (P2 : Int))).setCell ⟨w.heap.size, 2, none⟩ (.int .i64 0)).drew = V at hS HBV ⊢
          refine late_take (i := 0) (some 64) rfl rfl (by kernel_rfl) (by kernel_rfl) (by kernel_rfl) (by kernel_rfl) (by kernel_rfl) (fun _ _ _ h => h) (by rfl) (v := ?v0e) ?hy0e hS ?rest0e
          case hy0e => intro w0 hSw; obtain ⟨k0, k1, k2, _⟩ := three hSw; go_simp; try with_reducible rfl
          simp only [Act.put, List.setIfInBounds_toArray, List.set_cons_zero, List.set_cons_succ]
          refine late_take (i := 1) (some 65) rfl rfl (by kernel_rfl) (by kernel_rfl) (by kernel_rfl) (by kernel_rfl) (by kernel_rfl) (fun _ _ _ h => h) (by rfl) (v := ?v1e) ?hy1e hS ?rest1e
          case hy1e => intro w0 hSw; obtain ⟨k0, k1, k2, _⟩ := three hSw; go_simp; try with_reducible rfl
          simp only [Act.put, List.setIfInBounds_toArray, List.set_cons_zero, List.set_cons_succ]
          have HR4 := hid (HR3.out.below HBV.out)
          refine wpAnyD_one (i := 2) (by kernel_rfl) rfl (fun K hK => ?_)
          go_simp
          go_at_call 79
          refine (HU8.out V).mono ?_
          rintro e w5 ⟨rfl, rfl⟩
          have HR5 := hid (HR4.out.below (below_new V (.cells (Lib.runeCells (n : Int)).toArray 5 (0, 0))))
          refine hK _ _ ⟨fun _ => HR5.out.r, ?_⟩
          clear hK K
          obtain ⟨y0, y1, y2, yz⟩ := three HR5.out.o; have yz0 := yz 0; have yz1 := yz 1; have yz2 := yz 2; clear yz
          refine wpAnyD_one (i := 3) (by kernel_rfl) rfl (fun K hK => ?_)
          go_simp
          refine hK _ _ ⟨fun _ => (three_other (show w.heap.size ≠ w.heap.size + 1 by omega) _ _ _).trans HR5.out.r, ?_⟩
          clear hK K
          refine wpAnyD_one (i := 4) (by kernel_rfl) rfl (fun K hK => ?_)
          go_simp
          refine hK _ _ ⟨fun _ => (three_other (show w.heap.size ≠ w.heap.size + 1 by omega) _ _ _).trans HR5.out.r, ?_⟩
          clear hK K
          refine late_done (by kernel_rfl) ?_ _
          refine NoPanic.normal ?_
          clear hS
          go_wp2
          (try simp only [Exit.inBlock, Exit.then])
          refine bodyPost_ret (results_rdtmp rfl _ _ _ 49 _ (0, 0) rfl (three_put (has_three HR5.out.o) _ _ _) rfl) rfl ?_
          rw [HN.out]
          exact ⟨P2, V.heap.size, hP2, HD2.out, rfl, heap_new3 (lt_of_heap HR4.out.o) _ _ _, HR5.out.out _ _ _⟩
      · have HF4 := hid f4
        obtain ⟨N, hNI⟩ : ∃ N : Int, (n : Int) = N := ⟨_, rfl⟩
        have HNI := hid hNI
        have e0 : ¬ (56320 : Int) ≤ N := by omega
        have e1 : ¬ N < 55296 := by omega
        have e2 : ¬ (57343 : Int) < N := by omega
        clear f4
        rcases hrest with ⟨v, hwd, hcd⟩ | ⟨v, hwd, hrest⟩
        · have HWd := hid hwd
          have HN := hid (show T = .err 3 v from by rw [HTc.out]; exact hcd)
          clear hwd hcd n1 n2 hNI
          go_wp2_with (first
            | (go_at_call 33; (with_reducible refine (rnext_any s p 0 HZ.out _).mono ?_); rintro e w1 ⟨rfl, hb⟩; rw [HC.out]; have HR1 := hid (HR.out.below hb); clear hb HC; obtain ⟨z0, z1, z2, zz⟩ := three HR1.out.r; have zz0 := zz 0; have zz1 := zz 1; have zz2 := zz 2; clear zz)
            | (go_at_call 78; have HRm := hid (HR1.out.move ((p : Int) + 1) _ rfl); have hcall : Calls Tryz.prog 78 #[.agg #[.string s, .int .i64 ((p : Int) + 1), .int .i64 0], .int .i64 0, .int .i64 65535] (w1.setCell ⟨w.heap.size, 1, none⟩ (.int .i64 ((p : Int) + 1))) _ := rfour_any s (p + 1) ((p : Int) + 1) (by push_cast; rfl) 0 65535 HP1.out HS.out _; rw [fourR_wide, HF4.out] at hcall; (with_reducible refine hcall.mono ?_); clear hcall; rintro e w2 ⟨P2, hP2, hd2, rfl, hb⟩; rw [HNI.out]; have HD2 := hid hd2; have HR2 := hid (HRm.out.below hb); have HR3 := hid (HR2.out.put s (P2 : Int) 0); clear hb hd2 HP1; obtain ⟨a0, a1, a2, az⟩ := three HR2.out.r; have az0 := az 0; have az1 := az 1; have az2 := az 2; clear az; obtain ⟨b0, b1, b2, bz⟩ := three HR3.out.r; have bz0 := bz 0; have bz1 := bz 1; have bz2 := bz 2; clear bz; obtain ⟨y0, y1, y2, yz⟩ := three HR3.out.o; have yz0 := yz 0; have yz1 := yz 1; have yz2 := yz 2; clear yz)
            | (go_at_call 36; have hcall : Calls Tryz.prog 36 #[.agg #[.string s, .int .i64 (P2 : Int), .int .i64 0], .string ⟨#[92, 117]⟩] (((w2.setCell ⟨w.heap.size, 0, none⟩ (.string s)).setCell ⟨w.heap.size, 1, none⟩ (.int .i64 (P2 : Int))).setCell ⟨w.heap.size, 2, none⟩ (.int .i64 0)) _ := rword_any s P2 [92, 117] hP2 HS.out (by decide) (by decide) _; rw [HD2.out, HWd.out] at hcall; (with_reducible refine hcall.mono ?_); clear hcall; rintro e w3 ⟨P3, hP3, hd3, rfl, hb⟩; have HD3 := hid hd3; have HR4 := hid (HR3.out.below hb); have HR5 := hid (HR4.out.put s (P3 : Int) 3); clear hb hd3 HD2; obtain ⟨c0, c1, c2, cz⟩ := three HR4.out.r; have cz0 := cz 0; have cz1 := cz 1; have cz2 := cz 2; clear cz; obtain ⟨d0, d1, d2, dz⟩ := three HR5.out.r; have dz0 := dz 0; have dz1 := dz 1; have dz2 := dz 2; clear dz; obtain ⟨v0, v1, v2, vz⟩ := three HR5.out.o; have vz0 := vz 0; have vz1 := vz 1; have vz2 := vz 2; clear vz))
          (try simp only [Exit.inBlock, Exit.then])
          refine bodyPost_ret (results_rdtmp rfl _ _ _ 49 _ (0, 0) rfl (three_put (has_three HR5.out.o) _ _ _) rfl) rfl ?_
          rw [HN.out]
          exact ⟨P3, hP3, HD3.out, rfl, HR5.out.out _ _ _⟩
        have HWd := hid hwd
        clear hwd
        rcases hrest with ⟨t, hg, hcd⟩ | ⟨m, t, hg, m1, m2, hcd⟩
        · have HG4 := hid hg
          have HN := hid (show T = .err 3 t from by rw [HTc.out]; exact hcd)
          clear hg hcd n1 n2 hNI
          go_wp2_with (first
            | (go_at_call 33; (with_reducible refine (rnext_any s p 0 HZ.out _).mono ?_); rintro e w1 ⟨rfl, hb⟩; rw [HC.out]; have HR1 := hid (HR.out.below hb); clear hb HC; obtain ⟨z0, z1, z2, zz⟩ := three HR1.out.r; have zz0 := zz 0; have zz1 := zz 1; have zz2 := zz 2; clear zz)
            | (go_at_call 78; have HRm := hid (HR1.out.move ((p : Int) + 1) _ rfl); have hcall : Calls Tryz.prog 78 #[.agg #[.string s, .int .i64 ((p : Int) + 1), .int .i64 0], .int .i64 0, .int .i64 65535] (w1.setCell ⟨w.heap.size, 1, none⟩ (.int .i64 ((p : Int) + 1))) _ := rfour_any s (p + 1) ((p : Int) + 1) (by push_cast; rfl) 0 65535 HP1.out HS.out _; rw [fourR_wide, HF4.out] at hcall; (with_reducible refine hcall.mono ?_); clear hcall; rintro e w2 ⟨P2, hP2, hd2, rfl, hb⟩; rw [HNI.out]; have HD2 := hid hd2; have HR2 := hid (HRm.out.below hb); have HR3 := hid (HR2.out.put s (P2 : Int) 0); clear hb hd2 HP1; obtain ⟨a0, a1, a2, az⟩ := three HR2.out.r; have az0 := az 0; have az1 := az 1; have az2 := az 2; clear az; obtain ⟨b0, b1, b2, bz⟩ := three HR3.out.r; have bz0 := bz 0; have bz1 := bz 1; have bz2 := bz 2; clear bz; obtain ⟨y0, y1, y2, yz⟩ := three HR3.out.o; have yz0 := yz 0; have yz1 := yz 1; have yz2 := yz 2; clear yz)
            | (go_at_call 36; have hcall : Calls Tryz.prog 36 #[.agg #[.string s, .int .i64 (P2 : Int), .int .i64 0], .string ⟨#[92, 117]⟩] (((w2.setCell ⟨w.heap.size, 0, none⟩ (.string s)).setCell ⟨w.heap.size, 1, none⟩ (.int .i64 (P2 : Int))).setCell ⟨w.heap.size, 2, none⟩ (.int .i64 0)) _ := rword_any s P2 [92, 117] hP2 HS.out (by decide) (by decide) _; rw [HD2.out, HWd.out] at hcall; (with_reducible refine hcall.mono ?_); clear hcall; rintro e w3 ⟨P3, hP3, hd3, rfl, hb⟩; have HD3 := hid hd3; have HR4 := hid (HR3.out.below hb); have HR5 := hid (HR4.out.put s (P3 : Int) 0); clear hb hd3 HD2; obtain ⟨c0, c1, c2, cz⟩ := three HR4.out.r; have cz0 := cz 0; have cz1 := cz 1; have cz2 := cz 2; clear cz; obtain ⟨d0, d1, d2, dz⟩ := three HR5.out.r; have dz0 := dz 0; have dz1 := dz 1; have dz2 := dz 2; clear dz; obtain ⟨v0, v1, v2, vz⟩ := three HR5.out.o; have vz0 := vz 0; have vz1 := vz 1; have vz2 := vz 2; clear vz)
            | (go_at_call 78; have hcall : Calls Tryz.prog 78 #[.agg #[.string s, .int .i64 (P3 : Int), .int .i64 0], .int .i64 56320, .int .i64 57343] (((w3.setCell ⟨w.heap.size, 0, none⟩ (.string s)).setCell ⟨w.heap.size, 1, none⟩ (.int .i64 (P3 : Int))).setCell ⟨w.heap.size, 2, none⟩ (.int .i64 0)) _ := rfour_any s P3 (P3 : Int) rfl 56320 57343 hP3 HS.out _; rw [HD3.out, HG4.out] at hcall; (with_reducible refine hcall.mono ?_); clear hcall; rintro e w4 ⟨P4, hP4, hd4, rfl, hb⟩; have HD4 := hid hd4; have HR6 := hid (HR5.out.below hb); have HR7 := hid (HR6.out.put s (P4 : Int) 3); clear hb hd4; obtain ⟨f0, f1, f2, fz⟩ := three HR6.out.r; have fz0 := fz 0; have fz1 := fz 1; have fz2 := fz 2; clear fz; obtain ⟨g0, g1, g2, gz⟩ := three HR7.out.r; have gz0 := gz 0; have gz1 := gz 1; have gz2 := gz 2; clear gz; obtain ⟨u0, u1, u2, uz⟩ := three HR7.out.o; have uz0 := uz 0; have uz1 := uz 1; have uz2 := uz 2; clear uz))
          (try simp only [Exit.inBlock, Exit.then])
          refine bodyPost_ret (results_rdtmp rfl _ _ _ 49 _ (0, 0) rfl (three_put (has_three HR7.out.o) _ _ _) rfl) rfl ?_
          rw [HN.out]
          exact ⟨P4, hP4, HD4.out, rfl, HR7.out.out _ _ _⟩
        · have HG4 := hid hg
          obtain ⟨R, hR⟩ : ∃ R, 65536 + (n - 55296) * 1024 + (m - 56320) = R := ⟨_, rfl⟩
          have HN := hid (show T = .ok R t from by rw [HTc.out, ← hR]; exact hcd)
          obtain ⟨M, hMI⟩ : ∃ M : Int, (m : Int) = M := ⟨_, rfl⟩
          have HMI := hid hMI
          have HU8 := hid (fun W => utf8b_any R (65536 + (N - 55296) * 1024 + M - 56320) (by omega) (by omega) (by omega) W)
          have hM1 : (56320 : Int) ≤ M := by omega
          have hM2 : M ≤ 57343 := by omega
          clear hg hcd n1 n2 hNI hMI m1 m2 hR
          go_wp2_with (first
            | (go_at_call 33; (with_reducible refine (rnext_any s p 0 HZ.out _).mono ?_); rintro e w1 ⟨rfl, hb⟩; rw [HC.out]; have HR1 := hid (HR.out.below hb); clear hb HC; obtain ⟨z0, z1, z2, zz⟩ := three HR1.out.r; have zz0 := zz 0; have zz1 := zz 1; have zz2 := zz 2; clear zz)
            | (go_at_call 78; have HRm := hid (HR1.out.move ((p : Int) + 1) _ rfl); have hcall : Calls Tryz.prog 78 #[.agg #[.string s, .int .i64 ((p : Int) + 1), .int .i64 0], .int .i64 0, .int .i64 65535] (w1.setCell ⟨w.heap.size, 1, none⟩ (.int .i64 ((p : Int) + 1))) _ := rfour_any s (p + 1) ((p : Int) + 1) (by push_cast; rfl) 0 65535 HP1.out HS.out _; rw [fourR_wide, HF4.out] at hcall; (with_reducible refine hcall.mono ?_); clear hcall; rintro e w2 ⟨P2, hP2, hd2, rfl, hb⟩; rw [HNI.out]; have HD2 := hid hd2; have HR2 := hid (HRm.out.below hb); have HR3 := hid (HR2.out.put s (P2 : Int) 0); clear hb hd2 HP1; obtain ⟨a0, a1, a2, az⟩ := three HR2.out.r; have az0 := az 0; have az1 := az 1; have az2 := az 2; clear az; obtain ⟨b0, b1, b2, bz⟩ := three HR3.out.r; have bz0 := bz 0; have bz1 := bz 1; have bz2 := bz 2; clear bz; obtain ⟨y0, y1, y2, yz⟩ := three HR3.out.o; have yz0 := yz 0; have yz1 := yz 1; have yz2 := yz 2; clear yz)
            | (go_at_call 36; have hcall : Calls Tryz.prog 36 #[.agg #[.string s, .int .i64 (P2 : Int), .int .i64 0], .string ⟨#[92, 117]⟩] (((w2.setCell ⟨w.heap.size, 0, none⟩ (.string s)).setCell ⟨w.heap.size, 1, none⟩ (.int .i64 (P2 : Int))).setCell ⟨w.heap.size, 2, none⟩ (.int .i64 0)) _ := rword_any s P2 [92, 117] hP2 HS.out (by decide) (by decide) _; rw [HD2.out, HWd.out] at hcall; (with_reducible refine hcall.mono ?_); clear hcall; rintro e w3 ⟨P3, hP3, hd3, rfl, hb⟩; have HD3 := hid hd3; have HR4 := hid (HR3.out.below hb); have HR5 := hid (HR4.out.put s (P3 : Int) 0); clear hb hd3 HD2; obtain ⟨c0, c1, c2, cz⟩ := three HR4.out.r; have cz0 := cz 0; have cz1 := cz 1; have cz2 := cz 2; clear cz; obtain ⟨d0, d1, d2, dz⟩ := three HR5.out.r; have dz0 := dz 0; have dz1 := dz 1; have dz2 := dz 2; clear dz; obtain ⟨v0, v1, v2, vz⟩ := three HR5.out.o; have vz0 := vz 0; have vz1 := vz 1; have vz2 := vz 2; clear vz)
            | (go_at_call 78; have hcall : Calls Tryz.prog 78 #[.agg #[.string s, .int .i64 (P3 : Int), .int .i64 0], .int .i64 56320, .int .i64 57343] (((w3.setCell ⟨w.heap.size, 0, none⟩ (.string s)).setCell ⟨w.heap.size, 1, none⟩ (.int .i64 (P3 : Int))).setCell ⟨w.heap.size, 2, none⟩ (.int .i64 0)) _ := rfour_any s P3 (P3 : Int) rfl 56320 57343 hP3 HS.out _; rw [HD3.out, HG4.out] at hcall; (with_reducible refine hcall.mono ?_); clear hcall; rintro e w4 ⟨P4, hP4, hd4, rfl, hb⟩; rw [HMI.out]; have HD4 := hid hd4; have HR6 := hid (HR5.out.below hb); have HR7 := hid (HR6.out.put s (P4 : Int) 0); clear hb hd4; obtain ⟨f0, f1, f2, fz⟩ := three HR6.out.r; have fz0 := fz 0; have fz1 := fz 1; have fz2 := fz 2; clear fz; obtain ⟨g0, g1, g2, gz⟩ := three HR7.out.r; have gz0 := gz 0; have gz1 := gz 1; have gz2 := gz 2; clear gz; obtain ⟨u0, u1, u2, uz⟩ := three HR7.out.o; have uz0 := uz 0; have uz1 := uz 1; have uz2 := uz 2; clear uz))
          refine wp_region_noPanic ?_
          refine any_begin 11 (by kernel_rfl) (by kernel_rfl) ?_
          refine late_begin (fun U => U.heap[w.heap.size]? = some (.cells #[.string s, .int .i64 (P4 : Int), .int .i64 0] 49 (0, 0))) (fun _ => false) (HR7.out.below (below_drew (Below.refl _ _) 1)).r (fun hS => ?_)
          have HBV := hid (show Below (((w4.setCell ⟨w.heap.size, 0, none⟩ (.string s)).setCell ⟨w.heap.size, 1, none⟩ (.int .i64 (P4 : Int))).setCell ⟨w.heap.size, 2, none⟩ (.int .i64 0)).heap.size (((w4.setCell ⟨w.heap.size, 0, none⟩ (.string s)).setCell ⟨w.heap.size, 1, none⟩ (.int .i64 (P4 : Int))).setCell ⟨w.heap.size, 2, none⟩ (.int .i64 0)) (((w4.setCell ⟨w.heap.size, 0, none⟩ (.string s)).setCell ⟨w.heap.size, 1, none⟩ (.int .i64 (P4 : Int))).setCell ⟨w.heap.size, 2, none⟩ (.int .i64 0)).drew from below_drew (Below.refl _ _) 1)
          generalize (((w4.setCell ⟨w.heap.size, 0, none⟩ (.string s)).setCell ⟨w.heap.size, 1, none⟩ (.int .i64 (P4 : Int))).setCell ⟨w.heap.size, 2, none⟩ (.int .i64 0)).drew = V at hS HBV ⊢
          refine late_take (i := 0) (some 82) rfl rfl (by kernel_rfl) (by kernel_rfl) (by kernel_rfl) (by kernel_rfl) (by kernel_rfl) (fun _ _ _ h => h) (by rfl) (v := ?v0h) ?hy0h hS ?rest0h
          case hy0h => intro w0 hSw; obtain ⟨k0, k1, k2, _⟩ := three hSw; go_simp; try with_reducible rfl
          simp only [Act.put, List.setIfInBounds_toArray, List.set_cons_zero, List.set_cons_succ]
          refine late_take (i := 1) (some 83) rfl rfl (by kernel_rfl) (by kernel_rfl) (by kernel_rfl) (by kernel_rfl) (by kernel_rfl) (fun _ _ _ h => h) (by rfl) (v := ?v1h) ?hy1h hS ?rest1h
          case hy1h => intro w0 hSw; obtain ⟨k0, k1, k2, _⟩ := three hSw; go_simp; try with_reducible rfl
          simp only [Act.put, List.setIfInBounds_toArray, List.set_cons_zero, List.set_cons_succ]
          refine late_take (i := 2) (some 84) rfl rfl (by kernel_rfl) (by kernel_rfl) (by kernel_rfl) (by kernel_rfl) (by kernel_rfl) (fun _ _ _ h => h) (by rfl) (v := .int .i64 (N - 55296)) ?hy2h hS ?rest2h
          case hy2h => intro w0 hSw; obtain ⟨k0, k1, k2, _⟩ := three hSw; go_simp; first | with_reducible rfl | (rw [IntKind.wrap_i64]; omega)
          simp only [Act.put, List.setIfInBounds_toArray, List.set_cons_zero, List.set_cons_succ]
          refine late_take (i := 3) (some 85) rfl rfl (by kernel_rfl) (by kernel_rfl) (by kernel_rfl) (by kernel_rfl) (by kernel_rfl) (fun _ _ _ h => h) (by rfl) (v := .int .i64 ((N - 55296) * 1024)) ?hy3h hS ?rest3h
          case hy3h => intro w0 hSw; obtain ⟨k0, k1, k2, _⟩ := three hSw; go_simp; first | with_reducible rfl | (rw [IntKind.wrap_i64]; omega)
          simp only [Act.put, List.setIfInBounds_toArray, List.set_cons_zero, List.set_cons_succ]
          refine late_take (i := 4) (some 86) rfl rfl (by kernel_rfl) (by kernel_rfl) (by kernel_rfl) (by kernel_rfl) (by kernel_rfl) (fun _ _ _ h => h) (by rfl) (v := .int .i64 (65536 + (N - 55296) * 1024)) ?hy4h hS ?rest4h
          case hy4h => intro w0 hSw; obtain ⟨k0, k1, k2, _⟩ := three hSw; go_simp; first | with_reducible rfl | (rw [IntKind.wrap_i64]; omega)
          simp only [Act.put, List.setIfInBounds_toArray, List.set_cons_zero, List.set_cons_succ]
          refine late_take (i := 5) (some 87) rfl rfl (by kernel_rfl) (by kernel_rfl) (by kernel_rfl) (by kernel_rfl) (by kernel_rfl) (fun _ _ _ h => h) (by rfl) (v := ?v5h) ?hy5h hS ?rest5h
          case hy5h => intro w0 hSw; obtain ⟨k0, k1, k2, _⟩ := three hSw; go_simp; try with_reducible rfl
          simp only [Act.put, List.setIfInBounds_toArray, List.set_cons_zero, List.set_cons_succ]
          refine late_take (i := 6) (some 88) rfl rfl (by kernel_rfl) (by kernel_rfl) (by kernel_rfl) (by kernel_rfl) (by kernel_rfl) (fun _ _ _ h => h) (by rfl) (v := .int .i64 (65536 + (N - 55296) * 1024 + M)) ?hy6h hS ?rest6h
          case hy6h => intro w0 hSw; obtain ⟨k0, k1, k2, _⟩ := three hSw; go_simp; first | with_reducible rfl | (rw [IntKind.wrap_i64]; omega)
          simp only [Act.put, List.setIfInBounds_toArray, List.set_cons_zero, List.set_cons_succ]
          refine late_take (i := 7) (some 89) rfl rfl (by kernel_rfl) (by kernel_rfl) (by kernel_rfl) (by kernel_rfl) (by kernel_rfl) (fun _ _ _ h => h) (by rfl) (v := .int .i64 (65536 + (N - 55296) * 1024 + M - 56320)) ?hy7h hS ?rest7h
          case hy7h => intro w0 hSw; obtain ⟨k0, k1, k2, _⟩ := three hSw; go_simp; first | with_reducible rfl | (rw [IntKind.wrap_i64]; omega)
          simp only [Act.put, List.setIfInBounds_toArray, List.set_cons_zero, List.set_cons_succ]
          have HR8 := hid (HR7.out.below HBV.out)
          refine wpAnyD_one (i := 8) (by kernel_rfl) rfl (fun K hK => ?_)
          go_simp
          go_at_call 79
          refine (HU8.out V).mono ?_
          rintro e w5 ⟨rfl, rfl⟩
          have HR9 := hid (HR8.out.below (below_new V (.cells (Lib.runeCells (R : Int)).toArray 5 (0, 0))))
          refine hK _ _ ⟨fun _ => HR9.out.r, ?_⟩
          clear hK K
          obtain ⟨q0, q1, q2, qz⟩ := three HR9.out.o; have qz0 := qz 0; have qz1 := qz 1; have qz2 := qz 2; clear qz
          refine wpAnyD_one (i := 9) (by kernel_rfl) rfl (fun K hK => ?_)
          go_simp
          refine hK _ _ ⟨fun _ => (three_other (show w.heap.size ≠ w.heap.size + 1 by omega) _ _ _).trans HR9.out.r, ?_⟩
          clear hK K
          refine wpAnyD_one (i := 10) (by kernel_rfl) rfl (fun K hK => ?_)
          go_simp
          refine hK _ _ ⟨fun _ => (three_other (show w.heap.size ≠ w.heap.size + 1 by omega) _ _ _).trans HR9.out.r, ?_⟩
          clear hK K
          refine late_done (by kernel_rfl) ?_ _
          refine NoPanic.normal ?_
          clear hS
          go_wp2
          (try simp only [Exit.inBlock, Exit.then])
          refine bodyPost_ret (results_rdtmp rfl _ _ _ 49 _ (0, 0) rfl (three_put (has_three HR9.out.o) _ _ _) rfl) rfl ?_
          rw [HN.out]
          exact ⟨P4, V.heap.size, hP4, HD4.out, rfl, heap_new3 (lt_of_heap HR8.out.o) _ _ _, HR9.out.out _ _ _⟩
end Go.Proofs.YtkoeihliaandeaaGreatDoor
